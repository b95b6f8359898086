/-
  Writing blocks: what is written one behind the other, in mathematics; and the model's DiskDo.
-/
import Derived.Test.YteionibhfkhefaaMA
import Derived.StillTailTactics
namespace Go.Proofs.Yteionibhfkhefaa.W
open Go.RowKit K R

/-- what of a text is written -/
def cutB (t : Int) (s : ByteArray) : ByteArray := s.extract 0 (min s.size t.toNat)
/-- the text that the write with number i, of m, leaves -/
def mvT (t : Int) (m i : Nat) (x : Mv) : ByteArray := if i + 1 = m then cutB t x.text else x.text
/-- one write -/
def stepD (t : Int) (m i : Nat) (x : Mv) (d : List ByteArray) : List ByteArray := if 0 ≤ x.pos ∧ x.pos < d.length then d.set x.pos.toNat (mvT t m i x) else d
/-- the first k writes -/
def doK (t : Int) (l : List Mv) (d : List ByteArray) : Nat → List ByteArray
  | 0 => d
  | k + 1 => if h : k < l.length then stepD t l.length k l[k] (doK t l d k) else doK t l d k
/-- all writes -/
def doM (t : Int) (l : List Mv) (d : List ByteArray) : List ByteArray := doK t l d l.length
theorem stepD_len (t : Int) (m i : Nat) (x : Mv) (d : List ByteArray) : (stepD t m i x d).length = d.length := by
  unfold stepD; split
  · rw [List.length_set]
  · rfl
theorem doK_len (t : Int) (l : List Mv) (d : List ByteArray) : ∀ k, (doK t l d k).length = d.length
  | 0 => rfl
  | k + 1 => by
    unfold doK
    split
    · rw [stepD_len, doK_len t l d k]
    · exact doK_len t l d k
theorem doM_len (t : Int) (l : List Mv) (d : List ByteArray) : (doM t l d).length = d.length := doK_len t l d _
theorem doK_in {t : Int} {l : List Mv} {d : List ByteArray} {k p : Nat} (h : k < l.length) (hp : l[k].pos = p) (hd : p < d.length) : doK t l d (k + 1) = (doK t l d k).set p (mvT t l.length k l[k]) := by
  conv => lhs; unfold doK
  rw [dif_pos h]
  unfold stepD
  rw [doK_len, if_pos ⟨by omega, by omega⟩, hp]
  rfl
theorem doK_out {t : Int} {l : List Mv} {d : List ByteArray} {k : Nat} (h : k < l.length) (hp : l[k].pos < 0 ∨ (d.length : Int) ≤ l[k].pos) : doK t l d (k + 1) = doK t l d k := by
  conv => lhs; unfold doK
  rw [dif_pos h]
  unfold stepD
  rw [doK_len, if_neg (by omega)]
theorem mvT_last {t : Int} {m i : Nat} {x : Mv} (h : i + 1 = m) : mvT t m i x = x.text.extract 0 (min x.text.size t.toNat) := by unfold mvT; rw [if_pos h]; rfl
theorem mvT_not {t : Int} {m i : Nat} {x : Mv} (h : i + 1 ≠ m) : mvT t m i x = x.text := by unfold mvT; rw [if_neg h]

/-- an answer in new memory -/
def NewS (w : World) (l : List ByteArray) (e : Ending) (w' : World) : Prop := ∃ v, e = .returned v ∧ Own w' w.heap.size v l ∧ Below w.heap.size w w'

set_option maxHeartbeats 4000000 in
theorem doS (w : World) (B n c m cm : Nat) (A A2 : Option Addr) (d : List ByteArray) (l : List Mv) (t : Int) (hr : Strs w B A n d) (hr2 : Movs w B A2 m l) (hB : B ≤ w.heap.size) (hn : n ≤ 1048576) (hm : m ≤ 1048576) (hf : ∀ e ∈ l, e.text.size ≤ 1048576) :
    Calls Try.prog 12 #[.slice A n c, .slice A2 m cm, .int .i64 t] w (NewS w (doM t l d)) := by
  have hlen := hr.len
  subst hlen
  have hlen := hr2.len
  subst hlen
  have HR := Lib.hid hr
  have HR2 := Lib.hid hr2
  have HF := Lib.hid hf
  clear hr hr2 hf
  have E0 := Lib.hid (Own.empty w w.heap.size (Nat.le_refl _))
  have E1 := Lib.hid ((Below.refl w.heap.size w).alloc (Nat.le_refl _) (.cells #[] 9))
  go_enter Try.func12, Try.ntmps12
  go_wp2_with (at_builtin; go_must (refine app_own rfl (.tmp 10) (.tmp 11) rfl _ w.heap.size _ [] rfl E0.out B d.length c A d rfl (HR.out.below E1.out hB) (by simp; omega) (by simp) ?_); intro v1 w1 o1 g1)
  have HO1 := Lib.hid o1
  have HB1 := Lib.hid (Below.app E1.out E0.out (Nat.le_refl _) g1 (by simp))
  clear o1 g1 E0 E1
  rw [List.nil_append] at HO1
  obtain ⟨A1, c1, hv1, hc1, hm1, -⟩ := HO1.out.parts
  subst hv1
  go_wp2_with fail
  go_loopw [8] (fun i wr => ∃ k : Nat, k ≤ l.length ∧ i = .int .i64 (k : Nat) ∧ Own wr w.heap.size (.slice A1 d.length c1) (doK t l d k) ∧ Below w.heap.size w wr) (fun i _ => l.length - (intOf i).toNat)
  case atStart => exact ⟨0, Nat.zero_le _, rfl, HO1.out, HB1.out⟩
  case round =>
    obtain ⟨k, hk, rfl, ho, hb⟩ := hrel
    have HO := Lib.hid ho
    have HB := Lib.hid hb
    clear ho hb HO1 HB1
    by_cases hlt : k < l.length
    · obtain ⟨kb, ko, hA, hbB, c0, c2⟩ := (HR2.out.below HB.out hB).cell k hlt
      subst hA
      obtain ⟨x0, h0⟩ : ∃ y, y = l[k].pos := ⟨_, rfl⟩
      obtain ⟨x1, h1⟩ : ∃ y, y = l[k].text := ⟨_, rfl⟩
      have hxs := HF.out _ (List.getElem_mem hlt)
      rw [← h0] at c0
      rw [← h1] at c2 hxs
      have H0 := Lib.hid h0
      have H1 := Lib.hid h1
      have z0 : (0 : Int) ≤ (k : Int) := by omega
      have z1 : (k : Int) < (l.length : Int) := by omega
      clear h0 h1
      have hwrd : IntKind.i64.wrap ((d.length : Int) - 1) = (d.length : Int) - 1 := i64_z _ (by omega) (by omega)
      obtain ⟨q, hq⟩ : ∃ q, q = min x1.size t.toNat := ⟨_, rfl⟩
      obtain ⟨T, hT⟩ : ∃ T : Int, T = if t < 0 then 0 else t := ⟨_, rfl⟩
      have hmx : (if t < 0 then 0 else t) = T := hT.symm
      have hmn : (if (x1.size : Int) < T then (x1.size : Int) else T) = (q : Int) := by rw [hT]; split <;> split <;> omega
      have hle : q ≤ x1.size := by omega
      have HQ := Lib.hid hq
      clear hq hT
      by_cases hin : 0 ≤ x0 ∧ x0 ≤ (d.length : Int) - 1
      · obtain ⟨p, hp⟩ : ∃ p : Nat, x0 = (p : Int) := ⟨x0.toNat, by omega⟩
        subst hp
        have hpd : p < d.length := by omega
        obtain ⟨g, hA, hbg, hgl⟩ := HO.out.block (by rw [doK_len]; omega)
        subst hA
        have hib : inB (p : Int) 0 ((d.length : Int) - 1) = true := by unfold inB; simp; omega
        have hcell := HO.out.get p (by rw [doK_len]; exact hpd)
        have hfz := HO.out.free p
        by_cases hla : k + 1 = l.length
        · have hla2 : ((k + 1 : Nat) : Int) = (l.length : Int) := by omega
          go_wp2_with (first | (go_at_call 20; refine (inS _ _ _ _).mono ?_; rintro e w' ⟨rfl, rfl⟩))
          go_roundw
          case rel =>
            refine ⟨k + 1, by omega, by go_num, ?_, HB.out.setCell (p := ⟨g, p, none⟩) hbg _⟩
            rw [doK_in hlt H0.out.symm hpd, mvT_last hla, ← H1.out, ← HQ.out]
            exact HO.out.set p (x1.extract 0 q)
          case measure => simp [intOf]; omega
        · go_wp2_with (first | (go_at_call 20; refine (inS _ _ _ _).mono ?_; rintro e w' ⟨rfl, rfl⟩))
          go_roundw
          case rel =>
            refine ⟨k + 1, by omega, by go_num, ?_, HB.out.setCell (p := ⟨g, p, none⟩) hbg _⟩
            rw [doK_in hlt H0.out.symm hpd, mvT_not hla, ← H1.out]
            exact HO.out.set p x1
          case measure => simp [intOf]; omega
      · have hib : inB x0 0 ((d.length : Int) - 1) = false := by unfold inB; rw [Bool.eq_false_iff]; simp; omega
        have hd := doK_out (t := t) (d := d) hlt (by rw [← H0.out]; omega)
        have HD := Lib.hid hd
        clear hd
        by_cases hla : k + 1 = l.length
        · have hla2 : ((k + 1 : Nat) : Int) = (l.length : Int) := by omega
          go_wp2_with (first | (go_at_call 20; refine (inS _ _ _ _).mono ?_; rintro e w' ⟨rfl, rfl⟩))
          go_roundw
          case rel => exact ⟨k + 1, by omega, by go_num, by rw [HD.out]; exact HO.out, HB.out⟩
          case measure => simp [intOf]; omega
        · go_wp2_with (first | (go_at_call 20; refine (inS _ _ _ _).mono ?_; rintro e w' ⟨rfl, rfl⟩))
          go_roundw
          case rel => exact ⟨k + 1, by omega, by go_num, by rw [HD.out]; exact HO.out, HB.out⟩
          case measure => simp [intOf]; omega
    · have hke : k = l.length := by omega
      subst hke
      go_wp2
      go_ret
      exact ⟨_, rfl, by unfold doM; exact HO.out, HB.out⟩

end Go.Proofs.Yteionibhfkhefaa.W
