/-
  Contract of the model's SieveSeek: the walk.
  Contracts of the model's SieveSeek, at every filter and string that Go can hold, and of its SieveMeets at filters that are ones.
  Contract of the model's SieveMeets, at every filter and every two strings that Go can hold.
-/
import Derived.Test.YtakadkhgcjndmaaJ6
namespace Go.Proofs.Ytakadkhgcjndmaa.W
open Go.RowKit K

/-- l3Wholes and l3Behind, as they are called behind l3Heads in world w2 -/
theorem seek_calls {L M F : ByteArray} {l : List ByteArray} {kp : Nat} (hsv : svB L M F l kp = true) (A : Option Addr) (n c : Nat) (w2 : World) (B : Nat) (hr : Strs w2 B A n l) (hB : B ≤ w2.heap.size) (A2 : Option Addr) (c2 : Nat) (hst2 : Strs w2 w2.heap.size A2 (hsOf L M F l kp).length (hsOf L M F l kp)) (f : ByteArray) (t : Nat) (ht : (t : Int) = oneOr F 1) (W : World) (hW : W.heap = (w2.alloc (.cells #[] 4)).heap) (h2 : W.os = w2.os) (h3 : W.tape = w2.tape) (h4 : W.output = w2.output) :
    Calls Try.prog 99 #[.agg #[.string L, .string M, .string F, .slice A n c, .int .i64 kp], .int .i64 0, .int .i64 t, .slice (some ⟨w2.heap.size, 0, none⟩) 0 0] W fun e w5 =>
      ∃ A5 n5 c5, e = .returned (.slice A5 n5 c5) ∧ Below w2.heap.size w2 w5 ∧ ∀ W6 : World, W6.heap = w5.heap →
        Calls Try.prog 98 #[.slice A2 (hsOf L M F l kp).length c2, .slice A5 n5 c5, .string f] W6 fun e w' => e = .returned (.int .i64 (behI (hsOf L M F l kp) (wsOf L M F l kp) f : Nat)) ∧ W6 = w' := by
  have hb : Below w2.heap.size w2 W := Below.heap ((Below.refl _ _).alloc (Nat.le_refl _) _) hW h2 h3 h4
  have hsz : W.heap.size = w2.heap.size + 1 := by rw [hW]; simp
  have ho : OwnB W w2.heap.size (.slice (some ⟨w2.heap.size, 0, none⟩) 0 0) [] := (OwnB.emptyAt w2 _ _ rfl (Nat.le_refl _)).heap hW
  refine (wholes_top hsv A n c W B w2.heap.size w2.heap.size (hr.below hb hB) hB (by omega) ho t ht).mono ?_
  rintro e w5 ⟨v5, rfl, ob5, hg5⟩
  obtain ⟨A5, c5, hv5, hc5, hm5, hbs5⟩ := ob5.parts
  subst hv5
  have hb5 : Below w2.heap.size w2 w5 := hb.trans (hg5.belowB ho (by omega))
  refine ⟨A5, _, c5, rfl, hb5, fun W6 hW6 => ?_⟩
  have hs2 := hb5.size
  have hlen : (hsOf L M F l kp).length ≤ maxLen := by
    have := ws_len L M F l kp
    omega
  exact behindS W6 w5.heap.size _ c2 _ c5 A2 A5 (hsOf L M F l kp) (wsOf L M F l kp) f (((hst2.below hb5 (Nat.le_refl _)).more hs2).heap hW6) ⟨hbs5.len, fun i hi => by
    obtain ⟨b, off, hA, hlt, hcell⟩ := hbs5.cell i hi
    exact ⟨b, off, hA, hlt, by rw [World.cell?_of_block (w := w5) (a := ⟨b, off + i, none⟩) (by rw [hW6])]; exact hcell⟩⟩ hlen (ws_len L M F l kp)

/-- behind both calls -/
def SeekD (w2 : World) (k : Nat) (s7 : Value) (wx : World) : Prop := s7 = .int .i64 (k : Nat) ∧ Below w2.heap.size w2 wx

set_option maxRecDepth 8000 in
set_option maxHeartbeats 8000000 in
theorem seekYes (L M F : ByteArray) (A : Option Addr) (n c : Nat) (l : List ByteArray) (kp : Nat) (f : ByteArray) (w : World) (hL : L.size ≤ maxLen) (hM : M.size ≤ maxLen) (hF : F.size ≤ maxLen) (hff : f.size ≤ maxLen) (hr : Strs w w.heap.size A n l) (hnc : n ≤ c) (hc : c ≤ maxLen) (hfit : ∀ i (h : i < l.length), l[i].size ≤ 1000000000000) (hsv : svB L M F l kp = true) (hkf : keyB f = true) :
    Calls Try.prog 52 #[.agg #[.string L, .string M, .string F, .slice A n c, .int .i64 kp], .string f] w fun e w' => e = .returned (.tuple #[.string (strS (seekO L M F l kp f)), .bool (strB (seekO L M F l kp f))]) ∧ Below w.heap.size w w' := by
  have hlen := hr.len
  subst hlen
  have HR := Lib.hid hr
  have HFI := Lib.hid hfit
  have HSV := Lib.hid hsv
  have HOK := Lib.hid (show ∀ W : World, Below w.heap.size w W → Calls Try.prog 39 #[.agg #[.string L, .string M, .string F, .slice A l.length c, .int .i64 kp]] W fun e w' => e = .returned (.bool true) ∧ Below W.heap.size W w' from fun W hW => by
    have hh := okSv L M F A l.length c l kp W hL hM hF ((hr.below hW (Nat.le_refl _)).more hW.size) hnc hc hfit
    rw [hsv] at hh; exact hh)
  have HKY := Lib.hid (show ∀ W : World, Calls Try.prog 45 #[.string f] W fun e w' => e = .returned (.bool true) ∧ W = w' from fun W => by have hh := keyS f W hff; rw [hkf] at hh; exact hh)
  have HSO := Lib.hid (show seekO L M F l kp f = (hsOf L M F l kp)[behI (hsOf L M F l kp) (wsOf L M F l kp) f]? by unfold seekO; rw [if_pos ⟨hsv, hkf⟩, Int.toNat_natCast])
  have hfo : formB L M F l.length kp = true := by unfold svB at hsv; rw [Bool.and_eq_true] at hsv; exact hsv.1
  obtain ⟨p1, p2, p3, p4, p5, p6⟩ := form_parts hfo
  clear hr hfit hsv hfo hkf
  go_enter Try.func52, Try.ntmps52
  go_wp2_with fail
  go_at_call 39
  refine Calls.mono (HOK.out _ (by exact (Below.refl _ _).alloc (Nat.le_refl _) _)) ?_
  rintro e w1 ⟨rfl, hb1⟩
  have hbx : w1.heap[w.heap.size]? = some (Obj.cells #[.string L, .string M, .string F, .slice A l.length c, .int .i64 kp] 27) := by rw [hb1.block _ (by simp)]; exact heap_alloc_new _ _
  have hbw : Below w.heap.size w w1 := ((Below.refl _ _).alloc (Nat.le_refl _) _).trans (hb1.mono (by simp))
  have hs1 : w.heap.size < w1.heap.size := (Array.getElem?_eq_some_iff.1 hbx).1
  have a0 : w1.cell? ⟨w.heap.size, 0, none⟩ = some (.string L) := by rw [cell_of_row _ _ _ _ _ _ hbx]; rfl
  have a1 : w1.cell? ⟨w.heap.size, 1, none⟩ = some (.string M) := by rw [cell_of_row _ _ _ _ _ _ hbx]; rfl
  have a2 : w1.cell? ⟨w.heap.size, 2, none⟩ = some (.string F) := by rw [cell_of_row _ _ _ _ _ _ hbx]; rfl
  have a3 : w1.cell? ⟨w.heap.size, 3, none⟩ = some (.slice A l.length c) := by rw [cell_of_row _ _ _ _ _ _ hbx]; rfl
  have a4 : w1.cell? ⟨w.heap.size, 4, none⟩ = some (.int .i64 kp) := by rw [cell_of_row _ _ _ _ _ _ hbx]; rfl
  have HHS := Lib.hid (show Calls Try.prog 85 #[.agg #[.string L, .string M, .string F, .slice A l.length c, .int .i64 kp]] w1 (New w1 (hsOf L M F l kp)) from headsS L M F A l.length c l kp w.heap.size w1 p1 p2 p3 (by omega) HFI.out (HR.out.below hbw (Nat.le_refl _)) (by omega))
  have HBX := Lib.hid hbx
  have HBW := Lib.hid hbw
  clear hbx hbw hb1
  go_wp2_with (first
    | (go_at_call 45; refine (HKY.out _).mono ?_; rintro e w' ⟨rfl, rfl⟩)
    | (go_at_call 85; fail))
  go_at_call 85
  refine HHS.out.mono ?_
  rintro e w2 ⟨v2, rfl, ho2, hb2⟩
  obtain ⟨A2, c2, hv2, hc2, hm2, hst2⟩ := ho2.parts
  subst hv2
  have hbx2 : w2.heap[w.heap.size]? = some (Obj.cells #[.string L, .string M, .string F, .slice A l.length c, .int .i64 kp] 27) := by rw [hb2.block _ hs1]; exact HBX.out
  have hs2 : w1.heap.size ≤ w2.heap.size := hb2.size
  have HBW2 := Lib.hid (HBW.out.trans (hb2.mono (by omega)))
  obtain ⟨t, ht⟩ : ∃ t : Nat, (t : Int) = oneOr F 1 := ⟨(svOf L M F l kp).sel 1, (oneOr_sel L M F l kp 1).symm⟩
  have HON := Lib.hid (show ∀ W : World, Calls Try.prog 100 #[.string F, .int .i64 1] W fun e w' => e = .returned (.int .i64 t) ∧ W = w' from fun W => by
    have hh := oneS F 1 W (by unfold maxLen; omega) (by omega) (by omega)
    have e1 : (1 : Int).toNat = 1 := rfl
    rw [e1, ← ht] at hh; exact hh)
  have HWC := Lib.hid (fun W h1 h2 h3 h4 => seek_calls HSV.out A l.length c w2 w.heap.size (HR.out.below HBW2.out (Nat.le_refl _)) (by omega) A2 c2 hst2 f t ht W h1 h2 h3 h4)
  have HST := Lib.hid hst2
  have hble := beh_le (hsOf L M F l kp) (wsOf L M F l kp) f
  obtain ⟨k, hk⟩ : ∃ k, k = behI (hsOf L M F l kp) (wsOf L M F l kp) f := ⟨_, rfl⟩
  rw [← hk] at HWC hble HSO
  obtain ⟨hs, hhs⟩ : ∃ hs, hs = hsOf L M F l kp := ⟨_, rfl⟩
  rw [← hhs] at HWC HST hble HSO hc2 ⊢
  have d0 : w2.cell? ⟨w.heap.size, 0, none⟩ = some (.string L) := by rw [cell_of_row _ _ _ _ _ _ hbx2]; rfl
  have d1 : w2.cell? ⟨w.heap.size, 1, none⟩ = some (.string M) := by rw [cell_of_row _ _ _ _ _ _ hbx2]; rfl
  have d2 : w2.cell? ⟨w.heap.size, 2, none⟩ = some (.string F) := by rw [cell_of_row _ _ _ _ _ _ hbx2]; rfl
  have d3 : w2.cell? ⟨w.heap.size, 3, none⟩ = some (.slice A l.length c) := by rw [cell_of_row _ _ _ _ _ _ hbx2]; rfl
  have d4 : w2.cell? ⟨w.heap.size, 4, none⟩ = some (.int .i64 kp) := by rw [cell_of_row _ _ _ _ _ _ hbx2]; rfl
  have hbx3 : (w2.alloc (.cells #[] 4)).heap[w.heap.size]? = some (Obj.cells #[.string L, .string M, .string F, .slice A l.length c, .int .i64 kp] 27) := by rw [Below.heap_alloc _ _ _ (by omega)]; exact hbx2
  have g0 : (w2.alloc (.cells #[] 4)).cell? ⟨w.heap.size, 0, none⟩ = some (.string L) := by rw [cell_of_row _ _ _ _ _ _ hbx3]; rfl
  have g1 : (w2.alloc (.cells #[] 4)).cell? ⟨w.heap.size, 1, none⟩ = some (.string M) := by rw [cell_of_row _ _ _ _ _ _ hbx3]; rfl
  have g2 : (w2.alloc (.cells #[] 4)).cell? ⟨w.heap.size, 2, none⟩ = some (.string F) := by rw [cell_of_row _ _ _ _ _ _ hbx3]; rfl
  have g3 : (w2.alloc (.cells #[] 4)).cell? ⟨w.heap.size, 3, none⟩ = some (.slice A l.length c) := by rw [cell_of_row _ _ _ _ _ _ hbx3]; rfl
  have g4 : (w2.alloc (.cells #[] 4)).cell? ⟨w.heap.size, 4, none⟩ = some (.int .i64 kp) := by rw [cell_of_row _ _ _ _ _ _ hbx3]; rfl
  clear a0 a1 a2 a3 a4 hbx2 hbx3 hb2 ho2 hst2 ht hk hhs
  go_wp2_with fail
  go_cut [7] from 18 (fun s7 wx => SeekD w2 k s7 wx)
  case first =>
    go_region_with (first
      | (go_at_call 100; refine (HON.out _).mono ?_; rintro e w4 ⟨rfl, rfl⟩)
      | (go_at_call 99; refine Calls.mono (HWC.out _ (by rfl) (by rfl) (by rfl) (by rfl)) ?_; rintro e w5 ⟨A5, n5, c5, rfl, hb5, hbe⟩; have HB5 := Lib.hid hb5; have HBE := Lib.hid hbe; clear hb5 hbe)
      | (go_at_call 98; refine Calls.mono (HBE.out _ (by rfl)) ?_; rintro e w6 ⟨rfl, rfl⟩))
    all_goals
      go_wp2_with fail
      go_meet
      exact ⟨rfl, HB5.out⟩
  case rest =>
    obtain ⟨rfl, hbx⟩ := hcut
    have HBX3 := Lib.hid hbx
    have HST3 := Lib.hid (HST.out.below hbx (Nat.le_refl _))
    have hs3 := hbx.size
    clear hbx d0 d1 d2 d3 d4 g0 g1 g2 g3 g4
    have hsl : hs.length ≤ maxLen := Nat.le_trans hc2 hm2
    unfold maxLen at hsl
    by_cases hlt : k < hs.length
    · obtain ⟨b, off, hA, hb, hcell⟩ := HST3.out.cell k hlt
      subst hA
      go_wp2
      go_ret2
      exact ⟨by rw [HSO.out, List.getElem?_eq_getElem hlt]; rfl, HBW2.out.trans (HBX3.out.mono (by omega))⟩
    · have hke : k = hs.length := by omega
      subst hke
      go_wp2
      go_ret2
      exact ⟨by rw [HSO.out, List.getElem?_eq_none (Nat.le_refl _)]; rfl, HBW2.out.trans (HBX3.out.mono (by omega))⟩

end Go.Proofs.Ytakadkhgcjndmaa.W

namespace Go.Proofs.Ytakadkhgcjndmaa.W
open Go.RowKit K

set_option maxHeartbeats 1000000 in
theorem seekNo1 (L M F : ByteArray) (A : Option Addr) (n c : Nat) (l : List ByteArray) (keep : Int) (f : ByteArray) (w : World) (hL : L.size ≤ maxLen) (hM : M.size ≤ maxLen) (hF : F.size ≤ maxLen) (hr : Strs w w.heap.size A n l) (hnc : n ≤ c) (hc : c ≤ maxLen) (hfit : ∀ i (h : i < l.length), l[i].size ≤ 1000000000000) (hsv : svB L M F l keep = false) :
    Calls Try.prog 52 #[.agg #[.string L, .string M, .string F, .slice A n c, .int .i64 keep], .string f] w fun e w' => e = .returned (.tuple #[.string ⟨#[]⟩, .bool false]) ∧ Below w.heap.size w w' := by
  have hlen := hr.len
  subst hlen
  have HOK := Lib.hid (show ∀ W : World, Below w.heap.size w W → Calls Try.prog 39 #[.agg #[.string L, .string M, .string F, .slice A l.length c, .int .i64 keep]] W fun e w' => e = .returned (.bool false) ∧ Below W.heap.size W w' from fun W hW => by
    have hh := okSv L M F A l.length c l keep W hL hM hF ((hr.below hW (Nat.le_refl _)).more hW.size) hnc hc hfit
    rw [hsv] at hh; exact hh)
  clear hr hfit hsv
  go_enter Try.func52, Try.ntmps52
  go_wp2_with (go_at_call 39; refine Calls.mono (HOK.out _ (by exact (Below.refl _ _).alloc (Nat.le_refl _) _)) ?_; rintro e w1 ⟨rfl, hb1⟩)
  go_ret2
  exact ⟨rfl, ((Below.refl _ _).alloc (Nat.le_refl _) _).trans (hb1.mono (by simp))⟩
set_option maxHeartbeats 1000000 in
theorem seekNo2 (L M F : ByteArray) (A : Option Addr) (n c : Nat) (l : List ByteArray) (keep : Int) (f : ByteArray) (w : World) (hL : L.size ≤ maxLen) (hM : M.size ≤ maxLen) (hF : F.size ≤ maxLen) (hff : f.size ≤ maxLen) (hr : Strs w w.heap.size A n l) (hnc : n ≤ c) (hc : c ≤ maxLen) (hfit : ∀ i (h : i < l.length), l[i].size ≤ 1000000000000) (hsv : svB L M F l keep = true) (hkf : keyB f = false) :
    Calls Try.prog 52 #[.agg #[.string L, .string M, .string F, .slice A n c, .int .i64 keep], .string f] w fun e w' => e = .returned (.tuple #[.string ⟨#[]⟩, .bool false]) ∧ Below w.heap.size w w' := by
  have hlen := hr.len
  subst hlen
  have HOK := Lib.hid (show ∀ W : World, Below w.heap.size w W → Calls Try.prog 39 #[.agg #[.string L, .string M, .string F, .slice A l.length c, .int .i64 keep]] W fun e w' => e = .returned (.bool true) ∧ Below W.heap.size W w' from fun W hW => by
    have hh := okSv L M F A l.length c l keep W hL hM hF ((hr.below hW (Nat.le_refl _)).more hW.size) hnc hc hfit
    rw [hsv] at hh; exact hh)
  have HKY := Lib.hid (show ∀ W : World, Calls Try.prog 45 #[.string f] W fun e w' => e = .returned (.bool false) ∧ W = w' from fun W => by have hh := keyS f W hff; rw [hkf] at hh; exact hh)
  clear hr hfit hsv hkf
  go_enter Try.func52, Try.ntmps52
  go_wp2_with (first
    | (go_at_call 39; refine Calls.mono (HOK.out _ (by exact (Below.refl _ _).alloc (Nat.le_refl _) _)) ?_; rintro e w1 ⟨rfl, hb1⟩)
    | (go_at_call 45; refine (HKY.out _).mono ?_; rintro e w' ⟨rfl, rfl⟩))
  go_ret2
  exact ⟨rfl, ((Below.refl _ _).alloc (Nat.le_refl _) _).trans (hb1.mono (by simp))⟩
/-- the model's SieveSeek -/
theorem seekSv (L M F : ByteArray) (A : Option Addr) (n c : Nat) (l : List ByteArray) (keep : Int) (f : ByteArray) (w : World) (hL : L.size ≤ maxLen) (hM : M.size ≤ maxLen) (hF : F.size ≤ maxLen) (hff : f.size ≤ maxLen) (hr : Strs w w.heap.size A n l) (hnc : n ≤ c) (hc : c ≤ maxLen) (hfit : ∀ i (h : i < l.length), l[i].size ≤ 1000000000000) :
    Calls Try.prog 52 #[.agg #[.string L, .string M, .string F, .slice A n c, .int .i64 keep], .string f] w fun e w' => e = .returned (.tuple #[.string (strS (seekO L M F l keep f)), .bool (strB (seekO L M F l keep f))]) ∧ Below w.heap.size w w' := by
  rcases Bool.eq_false_or_eq_true (svB L M F l keep) with hsv | hsv
  · rcases Bool.eq_false_or_eq_true (keyB f) with hkf | hkf
    · have hfo : formB L M F l.length keep = true := by
        have h := hsv
        unfold svB at h; rw [Bool.and_eq_true] at h; exact h.1
      obtain ⟨-, -, -, -, p5, -⟩ := form_parts hfo
      obtain ⟨kp, rfl⟩ := Int.eq_ofNat_of_zero_le p5
      exact seekYes L M F A n c l kp f w hL hM hF hff hr hnc hc hfit hsv hkf
    · have e : seekO L M F l keep f = none := by unfold seekO; rw [if_neg (fun h => by rw [hkf] at h; simp at h)]
      rw [e]
      exact seekNo2 L M F A n c l keep f w hL hM hF hff hr hnc hc hfit hsv hkf
  · have e : seekO L M F l keep f = none := by unfold seekO; rw [if_neg (fun h => by rw [hsv] at h; simp at h)]
    rw [e]
    exact seekNo1 L M F A n c l keep f w hL hM hF hr hnc hc hfit hsv

theorem leq_eq (a b : ByteArray) : (Op.bytesLess a.toList b.toList || (a.toList == b.toList)) = !lt b a := by
  have e1 : Op.bytesLess a.toList b.toList = lt a b := rfl
  have e2 : (a.toList == b.toList) = eqs a b := rfl
  rw [e1, e2]
  rcases Bool.eq_false_or_eq_true (lt b a) with h | h
  · rw [h, lt_asymm h, eqs_false.mpr (fun e => lt_ne h e.symm)]; rfl
  · rw [h]
    rcases Bool.eq_false_or_eq_true (lt a b) with h2 | h2
    · rw [h2]; rfl
    · rw [h2, lt_total h2 h, eqs_self]; rfl
theorem gtr_eq (a b : ByteArray) : (!Op.bytesLess a.toList b.toList && !(a.toList == b.toList)) = lt b a := by
  have := leq_eq a b
  rw [← Bool.not_or, this, Bool.not_not]
/-- what is there is not behind -/
def atMost (o : Option ByteArray) (t : ByteArray) : Bool := o.any fun h => !lt t h
/-- what SieveMeets answers -/
def meetO (L M F : ByteArray) (l : List ByteArray) (keep : Int) (f t : ByteArray) : Bool := keyB t && (!lt t f && atMost (seekO L M F l keep f) t)

set_option maxRecDepth 8000 in
set_option maxHeartbeats 8000000 in
theorem meetsYes (L M F : ByteArray) (A : Option Addr) (n c : Nat) (l : List ByteArray) (kp : Nat) (f to_ : ByteArray) (w : World) (hL : L.size ≤ maxLen) (hM : M.size ≤ maxLen) (hF : F.size ≤ maxLen) (hff : f.size ≤ maxLen) (htf : to_.size ≤ maxLen) (hr : Strs w w.heap.size A n l) (hnc : n ≤ c) (hc : c ≤ maxLen) (hfit : ∀ i (h : i < l.length), l[i].size ≤ 1000000000000) (hsv : svB L M F l kp = true) (hkf : keyB f = true) (hkt : keyB to_ = true) (hle : Op.bytesLess to_.toList f.toList = false) :
    Calls Try.prog 50 #[.agg #[.string L, .string M, .string F, .slice A n c, .int .i64 kp], .string f, .string to_] w fun e w' => e = .returned (.bool (meetO L M F l kp f to_)) ∧ Below w.heap.size w w' := by
  have hlen := hr.len
  subst hlen
  have HR := Lib.hid hr
  have HFI := Lib.hid hfit
  have HSV := Lib.hid hsv
  have HOK := Lib.hid (show ∀ W : World, Below w.heap.size w W → Calls Try.prog 39 #[.agg #[.string L, .string M, .string F, .slice A l.length c, .int .i64 kp]] W fun e w' => e = .returned (.bool true) ∧ Below W.heap.size W w' from fun W hW => by
    have hh := okSv L M F A l.length c l kp W hL hM hF ((hr.below hW (Nat.le_refl _)).more hW.size) hnc hc hfit
    rw [hsv] at hh; exact hh)
  have HKY := Lib.hid (show ∀ W : World, Calls Try.prog 45 #[.string f] W fun e w' => e = .returned (.bool true) ∧ W = w' from fun W => by have hh := keyS f W hff; rw [hkf] at hh; exact hh)
  have HKT := Lib.hid (show ∀ W : World, Calls Try.prog 45 #[.string to_] W fun e w' => e = .returned (.bool true) ∧ W = w' from fun W => by have hh := keyS to_ W htf; rw [hkt] at hh; exact hh)
  have HSO := Lib.hid (show meetO L M F l kp f to_ = atMost ((hsOf L M F l kp)[behI (hsOf L M F l kp) (wsOf L M F l kp) f]?) to_ by
    have e1 : lt to_ f = false := hle
    unfold meetO seekO
    rw [if_pos ⟨hsv, hkf⟩, Int.toNat_natCast, hkt, e1]
    rfl)
  have hfo : formB L M F l.length kp = true := by unfold svB at hsv; rw [Bool.and_eq_true] at hsv; exact hsv.1
  obtain ⟨p1, p2, p3, p4, p5, p6⟩ := form_parts hfo
  clear hr hfit hsv hfo hkf hkt
  go_enter Try.func50, Try.ntmps50
  go_wp2_with fail
  go_at_call 39
  refine Calls.mono (HOK.out _ (by exact (Below.refl _ _).alloc (Nat.le_refl _) _)) ?_
  rintro e w1 ⟨rfl, hb1⟩
  have hbx : w1.heap[w.heap.size]? = some (Obj.cells #[.string L, .string M, .string F, .slice A l.length c, .int .i64 kp] 27) := by rw [hb1.block _ (by simp)]; exact heap_alloc_new _ _
  have hbw : Below w.heap.size w w1 := ((Below.refl _ _).alloc (Nat.le_refl _) _).trans (hb1.mono (by simp))
  have hs1 : w.heap.size < w1.heap.size := (Array.getElem?_eq_some_iff.1 hbx).1
  have a0 : w1.cell? ⟨w.heap.size, 0, none⟩ = some (.string L) := by rw [cell_of_row _ _ _ _ _ _ hbx]; rfl
  have a1 : w1.cell? ⟨w.heap.size, 1, none⟩ = some (.string M) := by rw [cell_of_row _ _ _ _ _ _ hbx]; rfl
  have a2 : w1.cell? ⟨w.heap.size, 2, none⟩ = some (.string F) := by rw [cell_of_row _ _ _ _ _ _ hbx]; rfl
  have a3 : w1.cell? ⟨w.heap.size, 3, none⟩ = some (.slice A l.length c) := by rw [cell_of_row _ _ _ _ _ _ hbx]; rfl
  have a4 : w1.cell? ⟨w.heap.size, 4, none⟩ = some (.int .i64 kp) := by rw [cell_of_row _ _ _ _ _ _ hbx]; rfl
  have HHS := Lib.hid (show Calls Try.prog 85 #[.agg #[.string L, .string M, .string F, .slice A l.length c, .int .i64 kp]] w1 (New w1 (hsOf L M F l kp)) from headsS L M F A l.length c l kp w.heap.size w1 p1 p2 p3 (by omega) HFI.out (HR.out.below hbw (Nat.le_refl _)) (by omega))
  have HBX := Lib.hid hbx
  have HBW := Lib.hid hbw
  clear hbx hbw hb1
  go_wp2_with (first
    | (go_at_call 45; with_reducible refine (HKY.out _).mono ?_; rintro e w' ⟨rfl, rfl⟩)
    | (go_at_call 45; refine (HKT.out _).mono ?_; rintro e w' ⟨rfl, rfl⟩)
    | (go_at_call 85; fail))
  · exfalso
    have h : (!Op.bytesLess f.toList to_.toList) = true ∧ (!f.toList == to_.toList) = true := by assumption
    have h1 := gtr_eq f to_
    rw [h.1, h.2, show lt to_ f = false from hle] at h1
    cases h1
  go_at_call 85
  refine HHS.out.mono ?_
  rintro e w2 ⟨v2, rfl, ho2, hb2⟩
  obtain ⟨A2, c2, hv2, hc2, hm2, hst2⟩ := ho2.parts
  subst hv2
  have hbx2 : w2.heap[w.heap.size]? = some (Obj.cells #[.string L, .string M, .string F, .slice A l.length c, .int .i64 kp] 27) := by rw [hb2.block _ hs1]; exact HBX.out
  have hs2 : w1.heap.size ≤ w2.heap.size := hb2.size
  have HBW2 := Lib.hid (HBW.out.trans (hb2.mono (by omega)))
  obtain ⟨t, ht⟩ : ∃ t : Nat, (t : Int) = oneOr F 1 := ⟨(svOf L M F l kp).sel 1, (oneOr_sel L M F l kp 1).symm⟩
  have HON := Lib.hid (show ∀ W : World, Calls Try.prog 100 #[.string F, .int .i64 1] W fun e w' => e = .returned (.int .i64 t) ∧ W = w' from fun W => by
    have hh := oneS F 1 W (by unfold maxLen; omega) (by omega) (by omega)
    have e1 : (1 : Int).toNat = 1 := rfl
    rw [e1, ← ht] at hh; exact hh)
  have HWC := Lib.hid (fun W h1 h2 h3 h4 => seek_calls HSV.out A l.length c w2 w.heap.size (HR.out.below HBW2.out (Nat.le_refl _)) (by omega) A2 c2 hst2 f t ht W h1 h2 h3 h4)
  have HST := Lib.hid hst2
  have hble := beh_le (hsOf L M F l kp) (wsOf L M F l kp) f
  obtain ⟨k, hk⟩ : ∃ k, k = behI (hsOf L M F l kp) (wsOf L M F l kp) f := ⟨_, rfl⟩
  rw [← hk] at HWC hble HSO
  obtain ⟨hs, hhs⟩ : ∃ hs, hs = hsOf L M F l kp := ⟨_, rfl⟩
  rw [← hhs] at HWC HST hble HSO hc2 ⊢
  have d0 : w2.cell? ⟨w.heap.size, 0, none⟩ = some (.string L) := by rw [cell_of_row _ _ _ _ _ _ hbx2]; rfl
  have d1 : w2.cell? ⟨w.heap.size, 1, none⟩ = some (.string M) := by rw [cell_of_row _ _ _ _ _ _ hbx2]; rfl
  have d2 : w2.cell? ⟨w.heap.size, 2, none⟩ = some (.string F) := by rw [cell_of_row _ _ _ _ _ _ hbx2]; rfl
  have d3 : w2.cell? ⟨w.heap.size, 3, none⟩ = some (.slice A l.length c) := by rw [cell_of_row _ _ _ _ _ _ hbx2]; rfl
  have d4 : w2.cell? ⟨w.heap.size, 4, none⟩ = some (.int .i64 kp) := by rw [cell_of_row _ _ _ _ _ _ hbx2]; rfl
  have hbx3 : (w2.alloc (.cells #[] 4)).heap[w.heap.size]? = some (Obj.cells #[.string L, .string M, .string F, .slice A l.length c, .int .i64 kp] 27) := by rw [Below.heap_alloc _ _ _ (by omega)]; exact hbx2
  have g0 : (w2.alloc (.cells #[] 4)).cell? ⟨w.heap.size, 0, none⟩ = some (.string L) := by rw [cell_of_row _ _ _ _ _ _ hbx3]; rfl
  have g1 : (w2.alloc (.cells #[] 4)).cell? ⟨w.heap.size, 1, none⟩ = some (.string M) := by rw [cell_of_row _ _ _ _ _ _ hbx3]; rfl
  have g2 : (w2.alloc (.cells #[] 4)).cell? ⟨w.heap.size, 2, none⟩ = some (.string F) := by rw [cell_of_row _ _ _ _ _ _ hbx3]; rfl
  have g3 : (w2.alloc (.cells #[] 4)).cell? ⟨w.heap.size, 3, none⟩ = some (.slice A l.length c) := by rw [cell_of_row _ _ _ _ _ _ hbx3]; rfl
  have g4 : (w2.alloc (.cells #[] 4)).cell? ⟨w.heap.size, 4, none⟩ = some (.int .i64 kp) := by rw [cell_of_row _ _ _ _ _ _ hbx3]; rfl
  clear a0 a1 a2 a3 a4 hbx2 hbx3 hb2 ho2 hst2 ht hk hhs
  go_wp2_with fail
  go_cut [8] from 29 (fun s7 wx => SeekD w2 k s7 wx)
  case first =>
    go_region_with (first
      | (go_at_call 100; refine (HON.out _).mono ?_; rintro e w4 ⟨rfl, rfl⟩)
      | (go_at_call 99; refine Calls.mono (HWC.out _ (by rfl) (by rfl) (by rfl) (by rfl)) ?_; rintro e w5 ⟨A5, n5, c5, rfl, hb5, hbe⟩; have HB5 := Lib.hid hb5; have HBE := Lib.hid hbe; clear hb5 hbe)
      | (go_at_call 98; refine Calls.mono (HBE.out _ (by rfl)) ?_; rintro e w6 ⟨rfl, rfl⟩))
    all_goals
      go_wp2_with fail
      go_meet
      exact ⟨rfl, HB5.out⟩
  case rest =>
    obtain ⟨rfl, hbx⟩ := hcut
    have HBX3 := Lib.hid hbx
    have HST3 := Lib.hid (HST.out.below hbx (Nat.le_refl _))
    have hs3 := hbx.size
    clear hbx d0 d1 d2 d3 d4 g0 g1 g2 g3 g4
    have hsl : hs.length ≤ maxLen := Nat.le_trans hc2 hm2
    unfold maxLen at hsl
    by_cases hlt : k < hs.length
    · obtain ⟨b, off, hA, hb, hcell⟩ := HST3.out.cell k hlt
      subst hA
      have HM3 := Lib.hid (show atMost (hs[k]?) to_ = !lt to_ hs[k] by rw [List.getElem?_eq_getElem hlt]; rfl)
      go_wp2
      go_ret
      exact ⟨ret_bool (by rw [HSO.out, HM3.out]; exact leq_eq _ _), HBW2.out.trans (HBX3.out.mono (by omega))⟩
    · have hke : k = hs.length := by omega
      subst hke
      go_wp2
      go_ret
      exact ⟨ret_bool (by rw [HSO.out, List.getElem?_eq_none (Nat.le_refl _)]; rfl), HBW2.out.trans (HBX3.out.mono (by omega))⟩

end Go.Proofs.Ytakadkhgcjndmaa.W

namespace Go.Proofs.Ytakadkhgcjndmaa.W
open Go.RowKit K

set_option maxHeartbeats 2000000 in
theorem meetsNo (L M F : ByteArray) (A : Option Addr) (n c : Nat) (l : List ByteArray) (keep : Int) (f to_ : ByteArray) (w : World) (hL : L.size ≤ maxLen) (hM : M.size ≤ maxLen) (hF : F.size ≤ maxLen) (hff : f.size ≤ maxLen) (htf : to_.size ≤ maxLen) (hr : Strs w w.heap.size A n l) (hnc : n ≤ c) (hc : c ≤ maxLen) (hfit : ∀ i (h : i < l.length), l[i].size ≤ 1000000000000)
    (hno : svB L M F l keep = false ∨ keyB f = false ∨ keyB to_ = false ∨ lt to_ f = true) :
    Calls Try.prog 50 #[.agg #[.string L, .string M, .string F, .slice A n c, .int .i64 keep], .string f, .string to_] w fun e w' => e = .returned (.bool false) ∧ Below w.heap.size w w' := by
  have hlen := hr.len
  subst hlen
  have HOK := Lib.hid (show ∀ W : World, Below w.heap.size w W → Calls Try.prog 39 #[.agg #[.string L, .string M, .string F, .slice A l.length c, .int .i64 keep]] W fun e w' => e = .returned (.bool (svB L M F l keep)) ∧ Below W.heap.size W w' from fun W hW =>
    okSv L M F A l.length c l keep W hL hM hF ((hr.below hW (Nat.le_refl _)).more hW.size) hnc hc hfit)
  have HKF := Lib.hid (show ∀ W : World, Calls Try.prog 45 #[.string f] W fun e w' => e = .returned (.bool (keyB f)) ∧ W = w' from fun W => keyS f W hff)
  have HKT := Lib.hid (show ∀ W : World, Calls Try.prog 45 #[.string to_] W fun e w' => e = .returned (.bool (keyB to_)) ∧ W = w' from fun W => keyS to_ W htf)
  clear hr hfit
  rcases Bool.eq_false_or_eq_true (svB L M F l keep) with g1 | g1
  · rcases Bool.eq_false_or_eq_true (keyB f) with g2 | g2
    · rcases Bool.eq_false_or_eq_true (keyB to_) with g3 | g3
      · have hlt : lt to_ f = true := by
          rcases hno with h | h | h | h
          · rw [g1] at h; cases h
          · rw [g2] at h; cases h
          · rw [g3] at h; cases h
          · exact h
        have h2 := lt_asymm hlt
        have h3 := eqs_false.mpr (lt_ne hlt).symm
        have h2' : Op.bytesLess f.toList to_.toList = false := h2
        have h3' : (f.toList == to_.toList) = false := h3
        rw [g1] at HOK
        rw [g2] at HKF
        rw [g3] at HKT
        clear hno g1 g2 g3 hlt h2 h3
        go_enter Try.func50, Try.ntmps50
        go_wp2_with (first
          | (go_at_call 39; refine Calls.mono (HOK.out _ (by exact (Below.refl _ _).alloc (Nat.le_refl _) _)) ?_; rintro e w1 ⟨rfl, hb1⟩)
          | (go_at_call 45; with_reducible refine (HKF.out _).mono ?_; rintro e w' ⟨rfl, rfl⟩)
          | (go_at_call 45; refine (HKT.out _).mono ?_; rintro e w' ⟨rfl, rfl⟩))
        go_ret
        exact ⟨rfl, ((Below.refl _ _).alloc (Nat.le_refl _) _).trans (hb1.mono (by simp))⟩
      · rw [g1] at HOK
        rw [g2] at HKF
        rw [g3] at HKT
        clear hno g1 g2 g3
        go_enter Try.func50, Try.ntmps50
        go_wp2_with (first
          | (go_at_call 39; refine Calls.mono (HOK.out _ (by exact (Below.refl _ _).alloc (Nat.le_refl _) _)) ?_; rintro e w1 ⟨rfl, hb1⟩)
          | (go_at_call 45; with_reducible refine (HKF.out _).mono ?_; rintro e w' ⟨rfl, rfl⟩)
          | (go_at_call 45; refine (HKT.out _).mono ?_; rintro e w' ⟨rfl, rfl⟩))
        go_ret
        exact ⟨rfl, ((Below.refl _ _).alloc (Nat.le_refl _) _).trans (hb1.mono (by simp))⟩
    · rw [g1] at HOK
      rw [g2] at HKF
      clear hno g1 g2
      go_enter Try.func50, Try.ntmps50
      go_wp2_with (first
        | (go_at_call 39; refine Calls.mono (HOK.out _ (by exact (Below.refl _ _).alloc (Nat.le_refl _) _)) ?_; rintro e w1 ⟨rfl, hb1⟩)
        | (go_at_call 45; refine (HKF.out _).mono ?_; rintro e w' ⟨rfl, rfl⟩))
      go_ret
      exact ⟨rfl, ((Below.refl _ _).alloc (Nat.le_refl _) _).trans (hb1.mono (by simp))⟩
  · rw [g1] at HOK
    clear hno g1
    go_enter Try.func50, Try.ntmps50
    go_wp2_with (go_at_call 39; refine Calls.mono (HOK.out _ (by exact (Below.refl _ _).alloc (Nat.le_refl _) _)) ?_; rintro e w1 ⟨rfl, hb1⟩)
    go_ret
    exact ⟨rfl, ((Below.refl _ _).alloc (Nat.le_refl _) _).trans (hb1.mono (by simp))⟩
/-- the model's SieveMeets -/
theorem meetsSv (L M F : ByteArray) (A : Option Addr) (n c : Nat) (l : List ByteArray) (keep : Int) (f to_ : ByteArray) (w : World) (hL : L.size ≤ maxLen) (hM : M.size ≤ maxLen) (hF : F.size ≤ maxLen) (hff : f.size ≤ maxLen) (htf : to_.size ≤ maxLen) (hr : Strs w w.heap.size A n l) (hnc : n ≤ c) (hc : c ≤ maxLen) (hfit : ∀ i (h : i < l.length), l[i].size ≤ 1000000000000) :
    Calls Try.prog 50 #[.agg #[.string L, .string M, .string F, .slice A n c, .int .i64 keep], .string f, .string to_] w fun e w' => e = .returned (.bool (meetO L M F l keep f to_)) ∧ Below w.heap.size w w' := by
  have hno : ∀ h : svB L M F l keep = false ∨ keyB f = false ∨ keyB to_ = false ∨ lt to_ f = true, meetO L M F l keep f to_ = false := fun h => by
    unfold meetO
    rcases h with h | h | h | h
    · have e : seekO L M F l keep f = none := by unfold seekO; rw [if_neg (fun h' => by rw [h] at h'; simp at h')]
      rw [e]; simp [atMost]
    · have e : seekO L M F l keep f = none := by unfold seekO; rw [if_neg (fun h' => by rw [h] at h'; simp at h')]
      rw [e]; simp [atMost]
    · rw [h]; rfl
    · rw [h]; simp
  by_cases hall : svB L M F l keep = true ∧ keyB f = true ∧ keyB to_ = true ∧ lt to_ f = false
  · obtain ⟨hsv, hkf, hkt, hle⟩ := hall
    have hfo : formB L M F l.length keep = true := by
      have h := hsv
      unfold svB at h; rw [Bool.and_eq_true] at h; exact h.1
    obtain ⟨-, -, -, -, p5, -⟩ := form_parts hfo
    obtain ⟨kp, rfl⟩ := Int.eq_ofNat_of_zero_le p5
    exact meetsYes L M F A n c l kp f to_ w hL hM hF hff htf hr hnc hc hfit hsv hkf hkt hle
  · have h : svB L M F l keep = false ∨ keyB f = false ∨ keyB to_ = false ∨ lt to_ f = true := by
      rcases Bool.eq_false_or_eq_true (svB L M F l keep) with g1 | g1
      · rcases Bool.eq_false_or_eq_true (keyB f) with g2 | g2
        · rcases Bool.eq_false_or_eq_true (keyB to_) with g3 | g3
          · rcases Bool.eq_false_or_eq_true (lt to_ f) with g4 | g4
            · exact .inr (.inr (.inr g4))
            · exact absurd ⟨g1, g2, g3, g4⟩ hall
          · exact .inr (.inr (.inl g3))
        · exact .inr (.inl g2)
      · exact .inl g1
    rw [hno h]
    exact meetsNo L M F A n c l keep f to_ w hL hM hF hff htf hr hnc hc hfit h

end Go.Proofs.Ytakadkhgcjndmaa.W

