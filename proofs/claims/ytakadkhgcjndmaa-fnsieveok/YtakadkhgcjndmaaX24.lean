/-
  Contracts of the program's SieveSeek and SieveMeets, at every filter.
-/
import Derived.Test.YtakadkhgcjndmaaX23
namespace Go.Proofs.Ytakadkhgcjndmaa.W
open Go.RowKit K

theorem zip_kpt {L M_ F : ByteArray} {l : List ByteArray} {kp : Nat} (h : svB L M_ F l kp = true) : (hsOf L M_ F l kp).zip (wsOf L M_ F l kp) = (kpt (svOf L M_ F l kp)).map fun h => (ba h.1, h.2) := by
  rw [(kpt_is (svB_is h)).2.1, List.map_map]
  unfold hsOf wsOf
  rw [zip_map']
  rfl
theorem seek_hit {L M_ F : ByteArray} {l : List ByteArray} {kp : Nat} {f : ByteArray} {Ks : List (T.Str × Bool)} (h : svB L M_ F l kp = true) (hf : keyB f = true) (hK : Ks = kpt (svOf L M_ F l kp)) {k : Nat} (hk : k < Ks.length) (hno : ∀ j (hj : j < Ks.length), j < k → nearP f (ba Ks[j].1, Ks[j].2) = false) (hy : nearP f (ba Ks[k].1, Ks[k].2) = true) : seekO L M_ F l kp f = some (ba Ks[k].1) := by
  have e1 : behI (hsOf L M_ F l kp) (wsOf L M_ F l kp) f = k := by
    unfold behI
    rw [zip_kpt h, ← hK]
    refine (List.findIdx_eq (by rw [List.length_map]; exact hk)).mpr ⟨by rw [List.getElem_map]; exact hy, fun j hj => ?_⟩
    rw [List.getElem_map]
    exact hno j (by omega) hj
  unfold seekO
  rw [if_pos ⟨h, hf⟩, Int.toNat_natCast, e1, ← kpt_hs h, ← hK, List.getElem?_map, List.getElem?_eq_getElem hk]
  rfl
theorem seek_none {L M_ F : ByteArray} {l : List ByteArray} {kp : Nat} {f : ByteArray} {Ks : List (T.Str × Bool)} (h : svB L M_ F l kp = true) (hK : Ks = kpt (svOf L M_ F l kp)) (hno : ∀ j (hj : j < Ks.length), nearP f (ba Ks[j].1, Ks[j].2) = false) : seekO L M_ F l kp f = none := by
  have e1 : behI (hsOf L M_ F l kp) (wsOf L M_ F l kp) f = Ks.length := by
    unfold behI
    rw [zip_kpt h, ← hK]
    have e : (Ks.map fun h => (ba h.1, h.2)).findIdx (nearP f) = (Ks.map fun h => (ba h.1, h.2)).length := by
      refine List.findIdx_eq_length.mpr fun x hx => ?_
      obtain ⟨y, hy, rfl⟩ := List.mem_map.mp hx
      obtain ⟨i, hi, rfl⟩ := List.mem_iff_getElem.mp hy
      exact hno i hi
    rw [e, List.length_map]
  unfold seekO
  split
  · rw [Int.toNat_natCast, e1, ← kpt_hs h, ← hK]
    exact List.getElem?_eq_none (by rw [List.length_map]; exact Nat.le_refl _)
  · rfl

set_option maxHeartbeats 1000000 in
theorem reachI (x : ByteArray) (b : Bool) (f : ByteArray) (w : World) : Calls Try.prog 101 #[.agg #[.string x, .bool b], .string f] w fun e w' => e = .returned (.bool (nearP f (x, b))) ∧ Below w.heap.size w w' := by
  have HBG := Lib.hid (fun W => begI f x W)
  rcases Bool.eq_false_or_eq_true (Op.bytesLess x.toList f.toList) with he | he
  · have e1 : lt x f = true := he
    cases b with
    | true =>
      have HN := Lib.hid (show nearP f (x, true) = false by unfold nearP; rw [e1]; rfl)
      clear e1
      go_enter Try.func101, Try.ntmps101
      go_wp2
      go_ret
      exact ⟨ret_bool HN.out.symm, (Below.refl _ _).alloc (Nat.le_refl _) _⟩
    | false =>
      have HN := Lib.hid (show nearP f (x, false) = begB f x by unfold nearP; rw [e1]; rfl)
      clear e1
      go_enter Try.func101, Try.ntmps101
      go_wp2_with (go_at_call 35; refine (HBG.out _).mono ?_; rintro e w1 ⟨rfl, hw1⟩)
      go_ret
      exact ⟨ret_bool HN.out.symm, by rw [← hw1]; exact (Below.refl _ _).alloc (Nat.le_refl _) _⟩
  · have HN := Lib.hid (show nearP f (x, b) = true by unfold nearP; have e1 : lt x f = false := he; rw [e1]; rfl)
    go_enter Try.func101, Try.ntmps101
    go_wp2
    go_ret
    exact ⟨ret_bool HN.out.symm, (Below.refl _ _).alloc (Nat.le_refl _) _⟩

set_option maxHeartbeats 2000000 in
theorem seekSI (L M_ F : ByteArray) (A : Option Addr) (n c : Nat) (l : List ByteArray) (keep : Int) (f : ByteArray) (w : World) (hM : M_.size ≤ maxLen) (hF : F.size ≤ maxLen) (hff : f.size ≤ maxLen) (hr : Strs w w.heap.size A n l) (hfit : ∀ i (h : i < l.length), l[i].size ≤ 1000000000000) :
    Calls Try.prog 53 #[.agg #[.string L, .string M_, .string F, .slice A n c, .int .i64 keep], .string f] w fun e w' => e = .returned (.tuple #[.string (strS (seekO L M_ F l keep f)), .bool (strB (seekO L M_ F l keep f))]) ∧ Below w.heap.size w w' := by
  have HV := Lib.hid (validW (L := L) (c := c) (keep := keep) hM hF hr hfit)
  have HK := Lib.hid (fun W => keyI f W hff)
  clear hr hfit
  go_enter Try.func53, Try.ntmps53
  go_wp2_with fail
  go_at_call 79
  refine Calls.mono (HV.out _ (by first | exact Below.refl _ _ | exact bel_same (by rfl) (by rfl) (by rfl) (by rfl) | exact bel_al (by rfl) (by rfl) (by rfl) (by rfl))) ?_
  rintro e w1 (⟨h1, kp, rfl, hkp, hfitr, A1, c1, rfl, htr, hb1⟩ | ⟨h1, A1, n1, c1, rfl, hb1⟩)
  · have HB := Lib.hid (show Below w.heap.size w w1 by first | exact hb1 | exact ((Below.refl w.heap.size w).alloc (Nat.le_refl _) _).trans (hb1.mono (by simp)))
    have hlt1 := HB.out.size
    rcases Bool.eq_false_or_eq_true (keyB f) with g | g
    · have HHD := Lib.hid (headsI _ hfitr.ahead hfitr.nodes A1 (svOf L M_ F l kp).top c1 (by have := hfitr.top; omega) (svOf L M_ F l kp).rd.length 0 [] w1 w1.heap.size (by omega) hfitr.pos htr (Nat.le_refl _) (by have := hfitr.cnt; unfold kpt at this; omega) (by have := hfitr.top; have := hfitr.len; simp; omega))
      obtain ⟨Ks, hKs⟩ : ∃ Ks, Ks = kpt (svOf L M_ F l kp) := ⟨_, rfl⟩
      have hcn : Ks.length ≤ 400 := by rw [hKs]; exact hfitr.cnt
      have e0 : T.hdT (svOf L M_ F l kp).rd (svOf L M_ F l kp).rd.length 0 [] = Ks := hKs.symm
      rw [e0] at HHD
      have HKS := Lib.hid hKs
      have HSV := Lib.hid h1
      have HG := Lib.hid g
      rw [g] at HK
      obtain ⟨tp, htp⟩ : ∃ t, t = (svOf L M_ F l kp).top := ⟨_, rfl⟩
      rw [← htp] at HHD ⊢
      clear hb1 h1 htr hfitr htp g hKs e0
      go_wp2_with fail
      go_at_call 80
      refine (HK.out _).mono ?_
      rintro e w2 ⟨rfl, hw2⟩
      subst hw2
      go_wp2_with fail
      go_at_call 83
      refine HHD.out.mono ?_
      rintro e w2 ⟨v2, rfl, ho2, hb2⟩
      obtain ⟨A2, c2, hv2, hc2, hm2⟩ := ho2.parts_
      subst hv2
      have HHS := Lib.hid (OwnH.hds ho2)
      have HB2 := Lib.hid (HB.out.trans (hb2.mono hlt1))
      have hlt2 := HB2.out.size
      clear ho2 hb2 hc2 hm2
      go_wp2_with fail
      go_loopw [25] (fun i wr => ∃ k : Nat, k ≤ Ks.length ∧ i = .int .i64 k ∧ Below w2.heap.size w2 wr ∧ Hid (∀ j (hj : j < Ks.length), j < k → nearP f (ba Ks[j].1, Ks[j].2) = false)) (fun i _ => Ks.length - (intOf i).toNat)
      case atStart => exact ⟨0, Nat.zero_le _, rfl, Below.refl _ _, Lib.hid fun j _ h => absurd h (by omega)⟩
      case round =>
        obtain ⟨k, hk, rfl, hbl, HA⟩ := hrel
        have HBL := Lib.hid hbl
        have hsz := hbl.size
        clear hbl
        by_cases hlt : k < Ks.length
        · obtain ⟨b, off, hA, hbB, hc1, hc2⟩ := (HHS.out.below HBL.out (Nat.le_refl _)).cell k hlt
          subst hA
          rw [Nat.mul_comm 2 k] at hc1 hc2
          have hx0 : (0 : Int) ≤ (k : Int) := by omega
          have hx1 : (k : Int) < (Ks.length : Int) := by omega
          have HRC := Lib.hid (fun W => reachI (ba Ks[k].1) Ks[k].2 f W)
          have HHIT := Lib.hid (show nearP f (ba Ks[k].1, Ks[k].2) = true → seekO L M_ F l kp f = some (ba Ks[k].1) from fun h => seek_hit HSV.out HG.out HKS.out hlt HA.out h)
          have HNXT := Lib.hid (show nearP f (ba Ks[k].1, Ks[k].2) = false → ∀ j (hj : j < Ks.length), j < k + 1 → nearP f (ba Ks[j].1, Ks[j].2) = false from fun h j hj hjk => by
            rcases (by omega : j < k ∨ j = k) with e | e
            · exact HA.out j hj e
            · subst e; exact h)
          rcases Bool.eq_false_or_eq_true (nearP f (ba Ks[k].1, Ks[k].2)) with g | g
          · rw [g] at HRC
            have HF := Lib.hid (HHIT.out g)
            obtain ⟨x, hx⟩ : ∃ x, x = ba Ks[k].1 := ⟨_, rfl⟩
            obtain ⟨y, hy⟩ : ∃ y, y = Ks[k].2 := ⟨_, rfl⟩
            rw [← hx, ← hy] at HRC
            rw [← hx] at hc1 HF
            rw [← hy] at hc2
            clear g hx hy HHIT HNXT
            go_wp2_with fail
            go_at_call 101
            refine (HRC.out _).mono ?_
            rintro e w3 ⟨rfl, hb3⟩
            have hbx : w3.heap[wr.heap.size]? = some (.cells #[.string x, .bool y] 102 (0, 0)) := by rw [hb3.block _ (by simp)]; exact heap_alloc_new _ _
            have hcx : w3.cell? ⟨wr.heap.size, 0, none⟩ = some (.string x) := by rw [cell_of_row _ _ _ _ _ _ hbx]; rfl
            have HB3 := Lib.hid (show Below w2.heap.size w2 w3 from (HBL.out.alloc hsz (.cells #[.string x, .bool y] 102)).trans (hb3.mono (by simp; omega)))
            clear hb3 hbx
            go_wp2
            go_ret2
            exact ⟨by rw [HF.out]; rfl, HB2.out.trans (HB3.out.mono hlt2)⟩
          · rw [g] at HRC
            have HF := Lib.hid (HNXT.out g)
            obtain ⟨x, hx⟩ : ∃ x, x = ba Ks[k].1 := ⟨_, rfl⟩
            obtain ⟨y, hy⟩ : ∃ y, y = Ks[k].2 := ⟨_, rfl⟩
            rw [← hx, ← hy] at HRC
            rw [← hx] at hc1
            rw [← hy] at hc2
            clear g hx hy HHIT HNXT
            go_wp2_with fail
            go_at_call 101
            refine (HRC.out _).mono ?_
            rintro e w3 ⟨rfl, hb3⟩
            have hbx : w3.heap[wr.heap.size]? = some (.cells #[.string x, .bool y] 102 (0, 0)) := by rw [hb3.block _ (by simp)]; exact heap_alloc_new _ _
            have hcx : w3.cell? ⟨wr.heap.size, 0, none⟩ = some (.string x) := by rw [cell_of_row _ _ _ _ _ _ hbx]; rfl
            have HB3 := Lib.hid (show Below w2.heap.size w2 w3 from (HBL.out.alloc hsz (.cells #[.string x, .bool y] 102)).trans (hb3.mono (by simp; omega)))
            clear hb3 hbx
            go_wp2
            go_roundw
            case rel => exact ⟨k + 1, by omega, by go_num, HB3.out, HF⟩
            case measure => simp [intOf]; omega
        · have hke : k = Ks.length := by omega
          subst hke
          have HF := Lib.hid (seek_none (f := f) HSV.out HKS.out (fun j hj => HA.out j hj hj))
          go_wp2
          go_ret2
          exact ⟨by rw [HF.out]; rfl, HB2.out.trans (HBL.out.mono hlt2)⟩
    · have E := Lib.hid (show seekO L M_ F l kp f = none by unfold seekO; rw [if_neg (fun h => by rw [g] at h; simp at h)])
      obtain ⟨tp, htp⟩ : ∃ t, t = (svOf L M_ F l kp).top := ⟨_, rfl⟩
      rw [← htp]
      rw [g] at HK
      clear hb1 h1 htr hfitr htp g
      go_wp2_with (go_at_call 80; refine (HK.out _).mono ?_; rintro e w2 ⟨rfl, hw2⟩; subst hw2)
      go_ret2
      exact ⟨by rw [E.out]; rfl, HB.out⟩
  · have E := Lib.hid (show seekO L M_ F l keep f = none by unfold seekO; rw [if_neg (fun h => by rw [h1] at h; simp at h)])
    have HB := Lib.hid (show Below w.heap.size w w1 by first | exact hb1 | exact ((Below.refl w.heap.size w).alloc (Nat.le_refl _) _).trans (hb1.mono (by simp)))
    clear hb1 h1
    go_wp2
    go_ret2
    exact ⟨by rw [E.out]; rfl, HB.out⟩

set_option maxHeartbeats 2000000 in
theorem meetsSI (L M_ F : ByteArray) (A : Option Addr) (n c : Nat) (l : List ByteArray) (keep : Int) (f t : ByteArray) (w : World) (hM : M_.size ≤ maxLen) (hF : F.size ≤ maxLen) (hff : f.size ≤ maxLen) (htf : t.size ≤ maxLen) (hr : Strs w w.heap.size A n l) (hfit : ∀ i (h : i < l.length), l[i].size ≤ 1000000000000) :
    Calls Try.prog 33 #[.agg #[.string L, .string M_, .string F, .slice A n c, .int .i64 keep], .string f, .string t] w fun e w' => e = .returned (.bool (meetO L M_ F l keep f t)) ∧ Below w.heap.size w w' := by
  have HS := Lib.hid (show ∀ W, Below w.heap.size w W → Calls Try.prog 53 #[.agg #[.string L, .string M_, .string F, .slice A n c, .int .i64 keep], .string f] W fun e w' => e = .returned (.tuple #[.string (strS (seekO L M_ F l keep f)), .bool (strB (seekO L M_ F l keep f))]) ∧ Below W.heap.size W w' from fun W hW => seekSI L M_ F A n c l keep f W hM hF hff ((hr.below hW (Nat.le_refl _)).more hW.size) hfit)
  have HKF := Lib.hid (fun W => keyI f W hff)
  have HKT := Lib.hid (fun W => keyI t W htf)
  clear hr hfit
  rcases Bool.eq_false_or_eq_true (keyB f) with g1 | g1
  · rcases Bool.eq_false_or_eq_true (keyB t) with g2 | g2
    · rw [g1] at HKF
      rw [g2] at HKT
      rcases Bool.eq_false_or_eq_true (lt t f) with g3 | g3
      · have HN := Lib.hid (show meetO L M_ F l keep f t = false by unfold meetO; rw [g3]; simp)
        have h2' : Op.bytesLess f.toList t.toList = false := lt_asymm g3
        have h3' : (f.toList == t.toList) = false := eqs_false.mpr (lt_ne g3).symm
        have h4' : Op.bytesLess t.toList f.toList = true := g3
        clear g1 g2 g3
        go_enter Try.func33, Try.ntmps33
        go_wp2_with (first
          | (go_at_call 80; with_reducible refine (HKF.out _).mono ?_; rintro e w' ⟨rfl, rfl⟩)
          | (go_at_call 80; refine (HKT.out _).mono ?_; rintro e w' ⟨rfl, rfl⟩))
        go_ret
        exact ⟨ret_bool HN.out.symm, by first | exact Below.refl _ _ | exact (Below.refl _ _).alloc (Nat.le_refl _) _⟩
      · have HN := Lib.hid (show meetO L M_ F l keep f t = atMost (seekO L M_ F l keep f) t by unfold meetO; rw [g3, g2]; rfl)
        have h4' : Op.bytesLess t.toList f.toList = false := g3
        have hor : (Op.bytesLess f.toList t.toList || (f.toList == t.toList)) = true := by rw [leq_eq, g3]; rfl
        obtain ⟨o, ho⟩ : ∃ o, o = seekO L M_ F l keep f := ⟨_, rfl⟩
        rw [← ho] at HS HN
        clear g1 g2 g3 ho
        rcases Bool.eq_false_or_eq_true (Op.bytesLess f.toList t.toList) with h2' | h2'
        · cases o with
          | none =>
            go_enter Try.func33, Try.ntmps33
            go_wp2_with (first
              | (go_at_call 80; with_reducible refine (HKF.out _).mono ?_; rintro e w' ⟨rfl, rfl⟩)
              | (go_at_call 80; refine (HKT.out _).mono ?_; rintro e w' ⟨rfl, rfl⟩)
              | (go_at_call 53; refine Calls.mono (HS.out _ (by first | exact Below.refl _ _ | exact bel_al (by rfl) (by rfl) (by rfl) (by rfl))) ?_; rintro e w1 ⟨rfl, hb1⟩; have HB := Lib.hid hb1; clear hb1; simp only [strS, strB]))
            go_ret
            exact ⟨ret_bool HN.out.symm, by first | exact HB.out | exact ((Below.refl w.heap.size w).alloc (Nat.le_refl _) _).trans (HB.out.mono (by simp))⟩
          | some x =>
            have HX := Lib.hid (leq_eq x t)
            go_enter Try.func33, Try.ntmps33
            go_wp2_with (first
              | (go_at_call 80; with_reducible refine (HKF.out _).mono ?_; rintro e w' ⟨rfl, rfl⟩)
              | (go_at_call 80; refine (HKT.out _).mono ?_; rintro e w' ⟨rfl, rfl⟩)
              | (go_at_call 53; refine Calls.mono (HS.out _ (by first | exact Below.refl _ _ | exact bel_al (by rfl) (by rfl) (by rfl) (by rfl))) ?_; rintro e w1 ⟨rfl, hb1⟩; have HB := Lib.hid hb1; clear hb1; simp only [strS, strB]))
            go_ret
            exact ⟨ret_bool (by rw [HN.out]; exact HX.out), by first | exact HB.out | exact ((Below.refl w.heap.size w).alloc (Nat.le_refl _) _).trans (HB.out.mono (by simp))⟩
        · have h3' : (f.toList == t.toList) = true := by rw [h2', Bool.false_or] at hor; exact hor
          cases o with
          | none =>
            go_enter Try.func33, Try.ntmps33
            go_wp2_with (first
              | (go_at_call 80; with_reducible refine (HKF.out _).mono ?_; rintro e w' ⟨rfl, rfl⟩)
              | (go_at_call 80; refine (HKT.out _).mono ?_; rintro e w' ⟨rfl, rfl⟩)
              | (go_at_call 53; refine Calls.mono (HS.out _ (by first | exact Below.refl _ _ | exact bel_al (by rfl) (by rfl) (by rfl) (by rfl))) ?_; rintro e w1 ⟨rfl, hb1⟩; have HB := Lib.hid hb1; clear hb1; simp only [strS, strB]))
            go_ret
            exact ⟨ret_bool HN.out.symm, by first | exact HB.out | exact ((Below.refl w.heap.size w).alloc (Nat.le_refl _) _).trans (HB.out.mono (by simp))⟩
          | some x =>
            have HX := Lib.hid (leq_eq x t)
            go_enter Try.func33, Try.ntmps33
            go_wp2_with (first
              | (go_at_call 80; with_reducible refine (HKF.out _).mono ?_; rintro e w' ⟨rfl, rfl⟩)
              | (go_at_call 80; refine (HKT.out _).mono ?_; rintro e w' ⟨rfl, rfl⟩)
              | (go_at_call 53; refine Calls.mono (HS.out _ (by first | exact Below.refl _ _ | exact bel_al (by rfl) (by rfl) (by rfl) (by rfl))) ?_; rintro e w1 ⟨rfl, hb1⟩; have HB := Lib.hid hb1; clear hb1; simp only [strS, strB]))
            go_ret
            exact ⟨ret_bool (by rw [HN.out]; exact HX.out), by first | exact HB.out | exact ((Below.refl w.heap.size w).alloc (Nat.le_refl _) _).trans (HB.out.mono (by simp))⟩
    · have HN := Lib.hid (show meetO L M_ F l keep f t = false by unfold meetO; rw [g2]; rfl)
      rw [g1] at HKF
      rw [g2] at HKT
      clear g1 g2
      go_enter Try.func33, Try.ntmps33
      go_wp2_with (first
        | (go_at_call 80; with_reducible refine (HKF.out _).mono ?_; rintro e w' ⟨rfl, rfl⟩)
        | (go_at_call 80; refine (HKT.out _).mono ?_; rintro e w' ⟨rfl, rfl⟩))
      go_ret
      exact ⟨ret_bool HN.out.symm, by first | exact Below.refl _ _ | exact (Below.refl _ _).alloc (Nat.le_refl _) _⟩
  · have HN := Lib.hid (show meetO L M_ F l keep f t = false by unfold meetO; rw [show seekO L M_ F l keep f = none by unfold seekO; rw [if_neg (fun h => by rw [g1] at h; simp at h)]]; simp [atMost])
    rw [g1] at HKF
    clear g1
    go_enter Try.func33, Try.ntmps33
    go_wp2_with (go_at_call 80; refine (HKF.out _).mono ?_; rintro e w' ⟨rfl, rfl⟩)
    go_ret
    exact ⟨ret_bool HN.out.symm, by first | exact Below.refl _ _ | exact (Below.refl _ _).alloc (Nat.le_refl _) _⟩

end Go.Proofs.Ytakadkhgcjndmaa.W
