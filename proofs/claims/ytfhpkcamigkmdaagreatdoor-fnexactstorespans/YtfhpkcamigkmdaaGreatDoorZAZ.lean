/-
  Contracts of the program's validTrie, SieveOk, SieveSize, SieveHeads and SieveHas, at every filter.
  Contracts of the program's SieveSeek and SieveMeets, at every filter.
  The program's StoreLooks and StoreSpans.
  The exact laws of StoreLooks and StoreSpans, as walks over the contracts.
-/
import Derived.Test.YtfhpkcamigkmdaaGreatDoorZAX
import Derived.Test.YtfhpkcamigkmdaaGreatDoorX17
import Derived.Test.YtfhpkcamigkmdaaGreatDoorZAK
import Derived.Test.YtfhpkcamigkmdaaGreatDoorZAW
import Derived.Test.YtfhpkcamigkmdaaGreatDoorZAV
import Derived.Deep.RegionHeld3
namespace Go.Proofs.YtfhpkcamigkmdaaGreatDoor.W
open Go.RowKit K

/-- what validTrie answers, at every filter -/
def ValidA (w : World) (L M_ F : ByteArray) (l : List ByteArray) (keep : Int) (e : Ending) (w' : World) : Prop :=
  (svB L M_ F l keep = true ∧ ∃ kp : Nat, keep = kp ∧ kp ≤ 5 ∧ RdFit L M_ F l kp ∧ ∃ A c, e = .returned (.tuple #[.slice A (svOf L M_ F l kp).top c, .bool true]) ∧ Trs w' (fun k => w'.heap.size ≤ k) A (svOf L M_ F l kp).top (svOf L M_ F l kp).rd ∧ Below w.heap.size w w') ∨
  (svB L M_ F l keep = false ∧ ∃ A n c, e = .returned (.tuple #[.slice A n c, .bool false]) ∧ Below w.heap.size w w')

set_option maxHeartbeats 2000000 in
theorem validSvI (L M_ F : ByteArray) (A : Option Addr) (n c : Nat) (l : List ByteArray) (keep : Int) (w : World) (hM : M_.size ≤ maxLen) (hF : F.size ≤ maxLen) (hr : Strs w w.heap.size A n l) (hfit : ∀ i (h : i < l.length), l[i].size ≤ 1000000000000) :
    Calls Tryz.prog 117 #[.agg #[.string L, .string M_, .string F, .slice A n c, .int .i64 keep]] w (ValidA w L M_ F l keep) := by
  have hln := hr.len
  subst hln
  rcases Bool.eq_false_or_eq_true (formB L M_ F l.length keep) with hfo | hfo
  · obtain ⟨p1, p2, p3, p4, p5, p6⟩ := form_parts hfo
    obtain ⟨kp, rfl⟩ := Int.eq_ofNat_of_zero_le p5
    refine (validC L M_ F A l.length c l kp w hr hfo hfit (fun W hs => readYes L M_ F A l.length c l kp W hs hfo)).mono ?_
    rintro e w' (⟨h1, A1, c1, rfl, h2, -, -, h3⟩ | ⟨h1, A1, n1, c1, rfl, h3⟩)
    · exact .inl ⟨h1, kp, rfl, by omega, rd_fit hfo hfit (kpt_is (svB_is h1)).1, A1, c1, rfl, h2, h3⟩
    · exact .inr ⟨h1, A1, n1, c1, rfl, h3⟩
  · have hsv := Lib.hid (show svB L M_ F l keep = false by unfold svB; rw [hfo]; rfl)
    have HRN := Lib.hid (fun W => readNo L M_ F A l.length c keep W hM hF hfo)
    clear hfo hfit hr
    go_enter Tryz.func117, Tryz.ntmps117
    go_wp2_with fail
    go_at_call 153
    refine (HRN.out _).mono ?_
    rintro e w1 ⟨rfl, hb1⟩
    have HBB := Lib.hid (((Below.refl w.heap.size w).alloc (Nat.le_refl _) (.cells #[.string L, .string M_, .string F, .slice A l.length c, .int .i64 keep] 92)).trans (hb1.mono (by simp)))
    clear hb1
    go_wp2
    go_ret2
    exact .inr ⟨hsv.out, _, _, _, rfl, HBB.out⟩

theorem validW {L M_ F : ByteArray} {A : Option Addr} {n c : Nat} {l : List ByteArray} {keep : Int} {w : World} (hM : M_.size ≤ maxLen) (hF : F.size ≤ maxLen) (hr : Strs w w.heap.size A n l) (hfit : ∀ i (h : i < l.length), l[i].size ≤ 1000000000000) :
    ∀ W, Below w.heap.size w W → Calls Tryz.prog 117 #[.agg #[.string L, .string M_, .string F, .slice A n c, .int .i64 keep]] W (ValidA W L M_ F l keep) := fun W hW =>
  validSvI L M_ F A n c l keep W hM hF ((hr.below hW (Nat.le_refl _)).more hW.size) hfit

/-- the kept parts of a filter that is one, as they are read -/
theorem kpt_hs {L M_ F : ByteArray} {l : List ByteArray} {kp : Nat} (h : svB L M_ F l kp = true) : (kpt (svOf L M_ F l kp)).map (fun h => ba h.1) = hsOf L M_ F l kp := by
  rw [(kpt_is (svB_is h)).2.1, List.map_map]
  rfl

end Go.Proofs.YtfhpkcamigkmdaaGreatDoor.W
namespace Go.Proofs.YtfhpkcamigkmdaaGreatDoor.W
open Go.RowKit K

theorem zip_kpt {L M_ F : ByteArray} {l : List ByteArray} {kp : Nat} (h : svB L M_ F l kp = true) : (hsOf L M_ F l kp).zip (wsOf L M_ F l kp) = (kpt (svOf L M_ F l kp)).map fun h => (ba h.1, h.2) := by
  rw [(kpt_is (svB_is h)).2.1, List.map_map]
  unfold hsOf wsOf
  rw [zip_map']
  rfl
theorem seek_hit {L M_ F : ByteArray} {l : List ByteArray} {kp : Nat} {f : ByteArray} {Ks : List (T.Str × Bool)} (h : svB L M_ F l kp = true) (hf : keyB f = true) (hK : Ks = kpt (svOf L M_ F l kp)) {k : Nat} (hk : k < Ks.length) (hno : ∀ j (hj : j < Ks.length), j < k → nearP f (ba Ks[j].1, Ks[j].2) = false) (hy : nearP f (ba Ks[k].1, Ks[k].2) = true) : seekO L M_ F l kp f = some (ba Ks[k].1) := by
  have e1 : behI (hsOf L M_ F l kp) (wsOf L M_ F l kp) f = k := by
    unfold behI
    rw [zip_kpt h, ← hK]
    refine (List.findIdx_eq (by rw [List.length_map]; exact hk)).mpr ⟨by rw [List.getElem_map]; exact hy, fun j hj => ?_⟩
    rw [List.getElem_map]
    exact hno j (by omega) hj
  unfold seekO
  rw [if_pos ⟨h, hf⟩, Int.toNat_natCast, e1, ← kpt_hs h, ← hK, List.getElem?_map, List.getElem?_eq_getElem hk]
  rfl
theorem seek_none {L M_ F : ByteArray} {l : List ByteArray} {kp : Nat} {f : ByteArray} {Ks : List (T.Str × Bool)} (h : svB L M_ F l kp = true) (hK : Ks = kpt (svOf L M_ F l kp)) (hno : ∀ j (hj : j < Ks.length), nearP f (ba Ks[j].1, Ks[j].2) = false) : seekO L M_ F l kp f = none := by
  have e1 : behI (hsOf L M_ F l kp) (wsOf L M_ F l kp) f = Ks.length := by
    unfold behI
    rw [zip_kpt h, ← hK]
    have e : (Ks.map fun h => (ba h.1, h.2)).findIdx (nearP f) = (Ks.map fun h => (ba h.1, h.2)).length := by
      refine List.findIdx_eq_length.mpr fun x hx => ?_
      obtain ⟨y, hy, rfl⟩ := List.mem_map.mp hx
      obtain ⟨i, hi, rfl⟩ := List.mem_iff_getElem.mp hy
      exact hno i hi
    rw [e, List.length_map]
  unfold seekO
  split
  · rw [Int.toNat_natCast, e1, ← kpt_hs h, ← hK]
    exact List.getElem?_eq_none (by rw [List.length_map]; exact Nat.le_refl _)
  · rfl

set_option maxHeartbeats 1000000 in
theorem reachI (x : ByteArray) (b : Bool) (f : ByteArray) (w : World) : Calls Tryz.prog 163 #[.agg #[.string x, .bool b], .string f] w fun e w' => e = .returned (.bool (nearP f (x, b))) ∧ Below w.heap.size w w' := by
  have HBG := Lib.hid (fun W => begI f x W)
  rcases Bool.eq_false_or_eq_true (Op.bytesLess x.toList f.toList) with he | he
  · have e1 : lt x f = true := he
    cases b with
    | true =>
      have HN := Lib.hid (show nearP f (x, true) = false by unfold nearP; rw [e1]; rfl)
      clear e1
      go_enter Tryz.func163, Tryz.ntmps163
      go_wp2
      go_ret
      exact ⟨ret_bool HN.out.symm, (Below.refl _ _).alloc (Nat.le_refl _) _⟩
    | false =>
      have HN := Lib.hid (show nearP f (x, false) = begB f x by unfold nearP; rw [e1]; rfl)
      clear e1
      go_enter Tryz.func163, Tryz.ntmps163
      go_wp2_with (go_at_call 188; refine (HBG.out _).mono ?_; rintro e w1 ⟨rfl, hw1⟩)
      go_ret
      exact ⟨ret_bool HN.out.symm, by rw [← hw1]; exact (Below.refl _ _).alloc (Nat.le_refl _) _⟩
  · have HN := Lib.hid (show nearP f (x, b) = true by unfold nearP; have e1 : lt x f = false := he; rw [e1]; rfl)
    go_enter Tryz.func163, Tryz.ntmps163
    go_wp2
    go_ret
    exact ⟨ret_bool HN.out.symm, (Below.refl _ _).alloc (Nat.le_refl _) _⟩

set_option maxHeartbeats 2000000 in
theorem seekSI (L M_ F : ByteArray) (A : Option Addr) (n c : Nat) (l : List ByteArray) (keep : Int) (f : ByteArray) (w : World) (hM : M_.size ≤ maxLen) (hF : F.size ≤ maxLen) (hff : f.size ≤ maxLen) (hr : Strs w w.heap.size A n l) (hfit : ∀ i (h : i < l.length), l[i].size ≤ 1000000000000) :
    Calls Tryz.prog 125 #[.agg #[.string L, .string M_, .string F, .slice A n c, .int .i64 keep], .string f] w fun e w' => e = .returned (.tuple #[.string (strS (seekO L M_ F l keep f)), .bool (strB (seekO L M_ F l keep f))]) ∧ Below w.heap.size w w' := by
  have HV := Lib.hid (validW (L := L) (c := c) (keep := keep) hM hF hr hfit)
  have HK := Lib.hid (fun W => keyI f W hff)
  clear hr hfit
  go_enter Tryz.func125, Tryz.ntmps125
  go_wp2_with fail
  go_at_call 117
  refine Calls.mono (HV.out _ (by first | exact Below.refl _ _ | exact bel_same (by rfl) (by rfl) (by rfl) (by rfl) | exact bel_al (by rfl) (by rfl) (by rfl) (by rfl))) ?_
  rintro e w1 (⟨h1, kp, rfl, hkp, hfitr, A1, c1, rfl, htr, hb1⟩ | ⟨h1, A1, n1, c1, rfl, hb1⟩)
  · have HB := Lib.hid (show Below w.heap.size w w1 by first | exact hb1 | exact ((Below.refl w.heap.size w).alloc (Nat.le_refl _) _).trans (hb1.mono (by simp)))
    have hlt1 := HB.out.size
    rcases Bool.eq_false_or_eq_true (keyB f) with g | g
    · have HHD := Lib.hid (headsI _ hfitr.ahead hfitr.nodes A1 (svOf L M_ F l kp).top c1 (by have := hfitr.top; omega) (svOf L M_ F l kp).rd.length 0 [] w1 w1.heap.size (by omega) hfitr.pos htr (Nat.le_refl _) (by have := hfitr.cnt; unfold kpt at this; omega) (by have := hfitr.top; have := hfitr.len; simp; omega))
      obtain ⟨Ks, hKs⟩ : ∃ Ks, Ks = kpt (svOf L M_ F l kp) := ⟨_, rfl⟩
      have hcn : Ks.length ≤ 400 := by rw [hKs]; exact hfitr.cnt
      have e0 : T.hdT (svOf L M_ F l kp).rd (svOf L M_ F l kp).rd.length 0 [] = Ks := hKs.symm
      rw [e0] at HHD
      have HKS := Lib.hid hKs
      have HSV := Lib.hid h1
      have HG := Lib.hid g
      rw [g] at HK
      obtain ⟨tp, htp⟩ : ∃ t, t = (svOf L M_ F l kp).top := ⟨_, rfl⟩
      rw [← htp] at HHD ⊢
      clear hb1 h1 htr hfitr htp g hKs e0
      go_wp2_with fail
      go_at_call 70
      refine (HK.out _).mono ?_
      rintro e w2 ⟨rfl, hw2⟩
      subst hw2
      go_wp2_with fail
      go_at_call 155
      refine HHD.out.mono ?_
      rintro e w2 ⟨v2, rfl, ho2, hb2⟩
      obtain ⟨A2, c2, hv2, hc2, hm2⟩ := ho2.parts_
      subst hv2
      have HHS := Lib.hid (OwnH.hds ho2)
      have HB2 := Lib.hid (HB.out.trans (hb2.mono hlt1))
      have hlt2 := HB2.out.size
      clear ho2 hb2 hc2 hm2
      go_wp2_with fail
      go_loopw [25] (fun i wr => ∃ k : Nat, k ≤ Ks.length ∧ i = .int .i64 k ∧ Below w2.heap.size w2 wr ∧ Hid (∀ j (hj : j < Ks.length), j < k → nearP f (ba Ks[j].1, Ks[j].2) = false)) (fun i _ => Ks.length - (intOf i).toNat)
      case atStart => exact ⟨0, Nat.zero_le _, rfl, Below.refl _ _, Lib.hid fun j _ h => absurd h (by omega)⟩
      case round =>
        obtain ⟨k, hk, rfl, hbl, HA⟩ := hrel
        have HBL := Lib.hid hbl
        have hsz := hbl.size
        clear hbl
        by_cases hlt : k < Ks.length
        · obtain ⟨b, off, hA, hbB, hc1, hc2⟩ := (HHS.out.below HBL.out (Nat.le_refl _)).cell k hlt
          subst hA
          rw [Nat.mul_comm 2 k] at hc1 hc2
          have hx0 : (0 : Int) ≤ (k : Int) := by omega
          have hx1 : (k : Int) < (Ks.length : Int) := by omega
          have HRC := Lib.hid (fun W => reachI (ba Ks[k].1) Ks[k].2 f W)
          have HHIT := Lib.hid (show nearP f (ba Ks[k].1, Ks[k].2) = true → seekO L M_ F l kp f = some (ba Ks[k].1) from fun h => seek_hit HSV.out HG.out HKS.out hlt HA.out h)
          have HNXT := Lib.hid (show nearP f (ba Ks[k].1, Ks[k].2) = false → ∀ j (hj : j < Ks.length), j < k + 1 → nearP f (ba Ks[j].1, Ks[j].2) = false from fun h j hj hjk => by
            rcases (by omega : j < k ∨ j = k) with e | e
            · exact HA.out j hj e
            · subst e; exact h)
          rcases Bool.eq_false_or_eq_true (nearP f (ba Ks[k].1, Ks[k].2)) with g | g
          · rw [g] at HRC
            have HF := Lib.hid (HHIT.out g)
            obtain ⟨x, hx⟩ : ∃ x, x = ba Ks[k].1 := ⟨_, rfl⟩
            obtain ⟨y, hy⟩ : ∃ y, y = Ks[k].2 := ⟨_, rfl⟩
            rw [← hx, ← hy] at HRC
            rw [← hx] at hc1 HF
            rw [← hy] at hc2
            clear g hx hy HHIT HNXT
            go_wp2_with fail
            go_at_call 163
            refine (HRC.out _).mono ?_
            rintro e w3 ⟨rfl, hb3⟩
            have hbx : w3.heap[wr.heap.size]? = some (.cells #[.string x, .bool y] 177 (0, 0)) := by rw [hb3.block _ (by simp)]; exact heap_alloc_new _ _
            have hcx : w3.cell? ⟨wr.heap.size, 0, none⟩ = some (.string x) := by rw [cell_of_row _ _ _ _ _ _ hbx]; rfl
            have HB3 := Lib.hid (show Below w2.heap.size w2 w3 from (HBL.out.alloc hsz (.cells #[.string x, .bool y] 177)).trans (hb3.mono (by simp; omega)))
            clear hb3 hbx
            go_wp2
            go_ret2
            exact ⟨by rw [HF.out]; rfl, HB2.out.trans (HB3.out.mono hlt2)⟩
          · rw [g] at HRC
            have HF := Lib.hid (HNXT.out g)
            obtain ⟨x, hx⟩ : ∃ x, x = ba Ks[k].1 := ⟨_, rfl⟩
            obtain ⟨y, hy⟩ : ∃ y, y = Ks[k].2 := ⟨_, rfl⟩
            rw [← hx, ← hy] at HRC
            rw [← hx] at hc1
            rw [← hy] at hc2
            clear g hx hy HHIT HNXT
            go_wp2_with fail
            go_at_call 163
            refine (HRC.out _).mono ?_
            rintro e w3 ⟨rfl, hb3⟩
            have hbx : w3.heap[wr.heap.size]? = some (.cells #[.string x, .bool y] 177 (0, 0)) := by rw [hb3.block _ (by simp)]; exact heap_alloc_new _ _
            have hcx : w3.cell? ⟨wr.heap.size, 0, none⟩ = some (.string x) := by rw [cell_of_row _ _ _ _ _ _ hbx]; rfl
            have HB3 := Lib.hid (show Below w2.heap.size w2 w3 from (HBL.out.alloc hsz (.cells #[.string x, .bool y] 177)).trans (hb3.mono (by simp; omega)))
            clear hb3 hbx
            go_wp2
            go_roundw
            case rel => exact ⟨k + 1, by omega, by go_num, HB3.out, HF⟩
            case measure => simp [intOf]; omega
        · have hke : k = Ks.length := by omega
          subst hke
          have HF := Lib.hid (seek_none (f := f) HSV.out HKS.out (fun j hj => HA.out j hj hj))
          go_wp2
          go_ret2
          exact ⟨by rw [HF.out]; rfl, HB2.out.trans (HBL.out.mono hlt2)⟩
    · have E := Lib.hid (show seekO L M_ F l kp f = none by unfold seekO; rw [if_neg (fun h => by rw [g] at h; simp at h)])
      obtain ⟨tp, htp⟩ : ∃ t, t = (svOf L M_ F l kp).top := ⟨_, rfl⟩
      rw [← htp]
      rw [g] at HK
      clear hb1 h1 htr hfitr htp g
      go_wp2_with (go_at_call 70; refine (HK.out _).mono ?_; rintro e w2 ⟨rfl, hw2⟩; subst hw2)
      go_ret2
      exact ⟨by rw [E.out]; rfl, HB.out⟩
  · have E := Lib.hid (show seekO L M_ F l keep f = none by unfold seekO; rw [if_neg (fun h => by rw [h1] at h; simp at h)])
    have HB := Lib.hid (show Below w.heap.size w w1 by first | exact hb1 | exact ((Below.refl w.heap.size w).alloc (Nat.le_refl _) _).trans (hb1.mono (by simp)))
    clear hb1 h1
    go_wp2
    go_ret2
    exact ⟨by rw [E.out]; rfl, HB.out⟩

set_option maxHeartbeats 2000000 in
theorem meetsSI (L M_ F : ByteArray) (A : Option Addr) (n c : Nat) (l : List ByteArray) (keep : Int) (f t : ByteArray) (w : World) (hM : M_.size ≤ maxLen) (hF : F.size ≤ maxLen) (hff : f.size ≤ maxLen) (htf : t.size ≤ maxLen) (hr : Strs w w.heap.size A n l) (hfit : ∀ i (h : i < l.length), l[i].size ≤ 1000000000000) :
    Calls Tryz.prog 80 #[.agg #[.string L, .string M_, .string F, .slice A n c, .int .i64 keep], .string f, .string t] w fun e w' => e = .returned (.bool (meetO L M_ F l keep f t)) ∧ Below w.heap.size w w' := by
  have HS := Lib.hid (show ∀ W, Below w.heap.size w W → Calls Tryz.prog 125 #[.agg #[.string L, .string M_, .string F, .slice A n c, .int .i64 keep], .string f] W fun e w' => e = .returned (.tuple #[.string (strS (seekO L M_ F l keep f)), .bool (strB (seekO L M_ F l keep f))]) ∧ Below W.heap.size W w' from fun W hW => seekSI L M_ F A n c l keep f W hM hF hff ((hr.below hW (Nat.le_refl _)).more hW.size) hfit)
  have HKF := Lib.hid (fun W => keyI f W hff)
  have HKT := Lib.hid (fun W => keyI t W htf)
  clear hr hfit
  rcases Bool.eq_false_or_eq_true (keyB f) with g1 | g1
  · rcases Bool.eq_false_or_eq_true (keyB t) with g2 | g2
    · rw [g1] at HKF
      rw [g2] at HKT
      rcases Bool.eq_false_or_eq_true (lt t f) with g3 | g3
      · have HN := Lib.hid (show meetO L M_ F l keep f t = false by unfold meetO; rw [g3]; simp)
        have h2' : Op.bytesLess f.toList t.toList = false := lt_asymm g3
        have h3' : (f.toList == t.toList) = false := eqs_false.mpr (lt_ne g3).symm
        have h4' : Op.bytesLess t.toList f.toList = true := g3
        clear g1 g2 g3
        go_enter Tryz.func80, Tryz.ntmps80
        go_wp2_with (first
          | (go_at_call 70; with_reducible refine (HKF.out _).mono ?_; rintro e w' ⟨rfl, rfl⟩)
          | (go_at_call 70; refine (HKT.out _).mono ?_; rintro e w' ⟨rfl, rfl⟩))
        go_ret
        exact ⟨ret_bool HN.out.symm, by first | exact Below.refl _ _ | exact (Below.refl _ _).alloc (Nat.le_refl _) _⟩
      · have HN := Lib.hid (show meetO L M_ F l keep f t = atMost (seekO L M_ F l keep f) t by unfold meetO; rw [g3, g2]; rfl)
        have h4' : Op.bytesLess t.toList f.toList = false := g3
        have hor : (Op.bytesLess f.toList t.toList || (f.toList == t.toList)) = true := by rw [leq_eq, g3]; rfl
        obtain ⟨o, ho⟩ : ∃ o, o = seekO L M_ F l keep f := ⟨_, rfl⟩
        rw [← ho] at HS HN
        clear g1 g2 g3 ho
        rcases Bool.eq_false_or_eq_true (Op.bytesLess f.toList t.toList) with h2' | h2'
        · cases o with
          | none =>
            go_enter Tryz.func80, Tryz.ntmps80
            go_wp2_with (first
              | (go_at_call 70; with_reducible refine (HKF.out _).mono ?_; rintro e w' ⟨rfl, rfl⟩)
              | (go_at_call 70; refine (HKT.out _).mono ?_; rintro e w' ⟨rfl, rfl⟩)
              | (go_at_call 125; refine Calls.mono (HS.out _ (by first | exact Below.refl _ _ | exact bel_al (by rfl) (by rfl) (by rfl) (by rfl))) ?_; rintro e w1 ⟨rfl, hb1⟩; have HB := Lib.hid hb1; clear hb1; simp only [strS, strB]))
            go_ret
            exact ⟨ret_bool HN.out.symm, by first | exact HB.out | exact ((Below.refl w.heap.size w).alloc (Nat.le_refl _) _).trans (HB.out.mono (by simp))⟩
          | some x =>
            have HX := Lib.hid (leq_eq x t)
            go_enter Tryz.func80, Tryz.ntmps80
            go_wp2_with (first
              | (go_at_call 70; with_reducible refine (HKF.out _).mono ?_; rintro e w' ⟨rfl, rfl⟩)
              | (go_at_call 70; refine (HKT.out _).mono ?_; rintro e w' ⟨rfl, rfl⟩)
              | (go_at_call 125; refine Calls.mono (HS.out _ (by first | exact Below.refl _ _ | exact bel_al (by rfl) (by rfl) (by rfl) (by rfl))) ?_; rintro e w1 ⟨rfl, hb1⟩; have HB := Lib.hid hb1; clear hb1; simp only [strS, strB]))
            go_ret
            exact ⟨ret_bool (by rw [HN.out]; exact HX.out), by first | exact HB.out | exact ((Below.refl w.heap.size w).alloc (Nat.le_refl _) _).trans (HB.out.mono (by simp))⟩
        · have h3' : (f.toList == t.toList) = true := by rw [h2', Bool.false_or] at hor; exact hor
          cases o with
          | none =>
            go_enter Tryz.func80, Tryz.ntmps80
            go_wp2_with (first
              | (go_at_call 70; with_reducible refine (HKF.out _).mono ?_; rintro e w' ⟨rfl, rfl⟩)
              | (go_at_call 70; refine (HKT.out _).mono ?_; rintro e w' ⟨rfl, rfl⟩)
              | (go_at_call 125; refine Calls.mono (HS.out _ (by first | exact Below.refl _ _ | exact bel_al (by rfl) (by rfl) (by rfl) (by rfl))) ?_; rintro e w1 ⟨rfl, hb1⟩; have HB := Lib.hid hb1; clear hb1; simp only [strS, strB]))
            go_ret
            exact ⟨ret_bool HN.out.symm, by first | exact HB.out | exact ((Below.refl w.heap.size w).alloc (Nat.le_refl _) _).trans (HB.out.mono (by simp))⟩
          | some x =>
            have HX := Lib.hid (leq_eq x t)
            go_enter Tryz.func80, Tryz.ntmps80
            go_wp2_with (first
              | (go_at_call 70; with_reducible refine (HKF.out _).mono ?_; rintro e w' ⟨rfl, rfl⟩)
              | (go_at_call 70; refine (HKT.out _).mono ?_; rintro e w' ⟨rfl, rfl⟩)
              | (go_at_call 125; refine Calls.mono (HS.out _ (by first | exact Below.refl _ _ | exact bel_al (by rfl) (by rfl) (by rfl) (by rfl))) ?_; rintro e w1 ⟨rfl, hb1⟩; have HB := Lib.hid hb1; clear hb1; simp only [strS, strB]))
            go_ret
            exact ⟨ret_bool (by rw [HN.out]; exact HX.out), by first | exact HB.out | exact ((Below.refl w.heap.size w).alloc (Nat.le_refl _) _).trans (HB.out.mono (by simp))⟩
    · have HN := Lib.hid (show meetO L M_ F l keep f t = false by unfold meetO; rw [g2]; rfl)
      rw [g1] at HKF
      rw [g2] at HKT
      clear g1 g2
      go_enter Tryz.func80, Tryz.ntmps80
      go_wp2_with (first
        | (go_at_call 70; with_reducible refine (HKF.out _).mono ?_; rintro e w' ⟨rfl, rfl⟩)
        | (go_at_call 70; refine (HKT.out _).mono ?_; rintro e w' ⟨rfl, rfl⟩))
      go_ret
      exact ⟨ret_bool HN.out.symm, by first | exact Below.refl _ _ | exact (Below.refl _ _).alloc (Nat.le_refl _) _⟩
  · have HN := Lib.hid (show meetO L M_ F l keep f t = false by unfold meetO; rw [show seekO L M_ F l keep f = none by unfold seekO; rw [if_neg (fun h => by rw [g1] at h; simp at h)]]; simp [atMost])
    rw [g1] at HKF
    clear g1
    go_enter Tryz.func80, Tryz.ntmps80
    go_wp2_with (go_at_call 70; refine (HKF.out _).mono ?_; rintro e w' ⟨rfl, rfl⟩)
    go_ret
    exact ⟨ret_bool HN.out.symm, by first | exact Below.refl _ _ | exact (Below.refl _ _).alloc (Nat.le_refl _) _⟩

end Go.Proofs.YtfhpkcamigkmdaaGreatDoor.W
namespace Go.Proofs.YtfhpkcamigkmdaaGreatDoor.W
open Go.RowKit K R

def f3 {α : Type} (a b c : α) : Nat → α
  | 0 => a
  | 1 => b
  | _ => c
theorem cnt3 (p : Sf → Bool) (a b c : Sf) : cntB (fun i => p (f3 a b c i)) = (([a, b, c].filter p).length : Nat) := by
  have h : List.range 3 = [0, 1, 2] := by decide
  unfold cntB
  rw [h]
  cases ha : p a <;> cases hb : p b <;> cases hc : p c <;> simp [f3, ha, hb, hc]
theorem lvl_sf {keep : Int} {i : Nat} {r : List En} {x : Sf} (h : lvlB keep i r x = true) : x = sfOf r keep := by
  unfold lvlB at h
  simp only [Bool.and_eq_true] at h
  obtain ⟨-, -, -, h⟩ := h
  rw [sfB_eq] at h
  unfold eqB at h
  simp only [Bool.and_eq_true, beq_iff_eq, decide_eq_true_eq] at h
  obtain ⟨h1, h2, h3, h4, h5⟩ := h
  obtain ⟨a, b, c, d, e⟩ := x
  unfold sfOf
  rw [Sf.mk.injEq]
  exact ⟨ba_ext h1, ba_ext h2, ba_ext h3, sameL_iff.mp h4, h5⟩
theorem sieves_of {s : Sto} (h : StP s) {l0 l1 l2 : List En} (hl : s.levels = [l0, l1, l2]) : s.sieves = [sfOf l0 s.keep, sfOf l1 s.keep, sfOf l2 s.keep] := by
  obtain ⟨x0, x1, x2, hx⟩ : ∃ x0 x1 x2, s.sieves = [x0, x1, x2] := by
    have h3 := h.ns
    match s.sieves, h3 with
    | [a, b, c], _ => exact ⟨a, b, c, rfl⟩
  have e0 := lvl_sf (h.lvl 0 (by rw [hl]; simp) (by rw [hx]; simp))
  have e1 := lvl_sf (h.lvl 1 (by rw [hl]; simp) (by rw [hx]; simp))
  have e2 := lvl_sf (h.lvl 2 (by rw [hl]; simp) (by rw [hx]; simp))
  simp [hl, hx] at e0 e1 e2
  rw [hx, e0, e1, e2]
theorem f3_mem {α : Type} {a b c : α} {k : Nat} (hk : k < 3) : f3 a b c k ∈ [a, b, c] := by
  rcases (by omega : k = 0 ∨ k = 1 ∨ k = 2) with rfl | rfl | rfl <;> simp [f3]
/-- a filled tree, by letters -/
theorem TreeK.G {W0 w : World} {g : Nat} {cur : Array Value} {A8 A9 : Option Addr} {k8 k9 : Nat} {top l0 l1 l2 : List En} {keep time : Int} {times : List Int} (h : TreeK W0 w g cur A8 A9 k8 k9 top [l0, l1, l2] keep time times 3) :
    ∃ A B n c m d, w.heap[g]? = some (.cells (boxG A8 top.length k8 A B n c m d (f3 (sfOf l0 keep) (sfOf l1 keep) (sfOf l2 keep)) (.slice A9 times.length k9) keep time) 119 (0, 0)) ∧
      ∀ k, k < 3 → Strs w w.heap.size (B k) (m k) (f3 (sfOf l0 keep) (sfOf l1 keep) (sfOf l2 keep) k).rests ∧ Ents w w.heap.size (A k) (n k) (f3 l0 l1 l2 k) ∧ n k ≤ c k ∧ c k ≤ maxLen := by
  obtain ⟨A1, A2, A3, B0, B1, B2, c1, c2, c3, d0, d1, d2, tm⟩ := h.tree
  have hcur : cur = treeC (.slice A8 top.length k8) (.slice A1 l0.length c1) (sfOf l0 keep) (.slice B0 (sfOf l0 keep).rests.length d0) (.slice A2 l1.length c2) (sfOf l1 keep) (.slice B1 (sfOf l1 keep).rests.length d1) (.slice A3 l2.length c3) (sfOf l2 keep) (.slice B2 (sfOf l2 keep).rests.length d2) keep time (.slice A9 times.length k9) := by
    have := h.row.symm.trans tm.box
    injection this with this
    injection this
  obtain ⟨a0, b0, k0, e0, m0⟩ := h.lv 0 (by simp) (by omega)
  obtain ⟨a1, b1, k1, e1, m1⟩ := h.lv 1 (by simp) (by omega)
  obtain ⟨a2, b2, k2, e2, m2⟩ := h.lv 2 (by simp) (by omega)
  have y0 := m0.c4
  have y1 := m1.c4
  have y2 := m2.c4
  rw [hcur] at y0 y1 y2
  injection (show some (Value.slice B0 (sfOf l0 keep).rests.length d0) = some _ from y0) with y0
  injection (show some (Value.slice B1 (sfOf l1 keep).rests.length d1) = some _ from y1) with y1
  injection (show some (Value.slice B2 (sfOf l2 keep).rests.length d2) = some _ from y2) with y2
  injection y0 with y0
  injection y1 with y1
  injection y2 with y2
  subst y0 y1 y2
  refine ⟨f3 A1 A2 A3, f3 B0 B1 B2, f3 l0.length l1.length l2.length, f3 c1 c2 c3, f3 (sfOf l0 keep).rests.length (sfOf l1 keep).rests.length (sfOf l2 keep).rests.length, f3 d0 d1 d2, tm.box, fun k hk => ?_⟩
  rcases (by omega : k = 0 ∨ k = 1 ∨ k = 2) with rfl | rfl | rfl
  · exact ⟨strs_own' m0.rests, tm.e1, tm.m1⟩
  · exact ⟨strs_own' m1.rests, tm.e2, tm.m2⟩
  · exact ⟨strs_own' m2.rests, tm.e3, tm.m3⟩

theorem cell_lt {W : World} {b o : Nat} {v : Value} (h : W.cell? ⟨b, o, none⟩ = some v) : b < W.heap.size := by
  by_cases hb : b < W.heap.size
  · exact hb
  · exfalso
    have hn : W.heap[b]? = none := Array.getElem?_eq_none (by omega)
    unfold World.cell? at h
    rw [show W.heap[(⟨b, o, none⟩ : Addr).block]? = none from hn] at h
    cases h

set_option maxHeartbeats 2000000 in
theorem spansF (W : World) (p0 : Nat) (p1 : Nat) (f t : ByteArray) (hc0 : W.cell? ⟨p0, 0, none⟩ = some (.string f)) (hc1 : W.cell? ⟨p1, 0, none⟩ = some (.string t)) (hf : f.size ≤ maxLen) (ht : t.size ≤ maxLen) (L M_ F : ByteArray) (A : Option Addr) (n c : Nat) (l : List ByteArray) (keep : Int) (hM : M_.size ≤ maxLen) (hF : F.size ≤ maxLen) (hr : Strs W W.heap.size A n l) (hfit : ∀ i (h : i < l.length), l[i].size ≤ 1000000000000) :
    Calls Tryz.prog 90 #[.agg #[.string L, .string M_, .string F, .slice A n c, .int .i64 keep], .pointer (some ⟨p0, 0, none⟩), .pointer (some ⟨p1, 0, none⟩)] W fun e w' => e = .returned (.bool (meetO L M_ F l keep f t)) ∧ Below W.heap.size W w' := by
  obtain ⟨W0, hW0⟩ : ∃ W0, W0 = W.alloc (.cells #[.string L, .string M_, .string F, .slice A n c, .int .i64 keep] 92) := ⟨_, rfl⟩
  have hbw : Below W.heap.size W W0 := by rw [hW0]; exact (Below.refl _ _).alloc (Nat.le_refl _) _
  have q0 : W0.cell? ⟨W.heap.size, 0, none⟩ = some (.string L) := by rw [hW0, cell_of_row _ _ _ _ _ _ (heap_alloc_new W _)]; rfl
  have q1 : W0.cell? ⟨W.heap.size, 1, none⟩ = some (.string M_) := by rw [hW0, cell_of_row _ _ _ _ _ _ (heap_alloc_new W _)]; rfl
  have q2 : W0.cell? ⟨W.heap.size, 2, none⟩ = some (.string F) := by rw [hW0, cell_of_row _ _ _ _ _ _ (heap_alloc_new W _)]; rfl
  have q3 : W0.cell? ⟨W.heap.size, 3, none⟩ = some (.slice A n c) := by rw [hW0, cell_of_row _ _ _ _ _ _ (heap_alloc_new W _)]; rfl
  have q4 : W0.cell? ⟨W.heap.size, 4, none⟩ = some (.int .i64 keep) := by rw [hW0, cell_of_row _ _ _ _ _ _ (heap_alloc_new W _)]; rfl
  have c0 : W0.cell? ⟨p0, 0, none⟩ = some (.string f) := (hbw.cell (p := ⟨p0, 0, none⟩) (cell_lt hc0)).trans hc0
  have c1 : W0.cell? ⟨p1, 0, none⟩ = some (.string t) := (hbw.cell (p := ⟨p1, 0, none⟩) (cell_lt hc1)).trans hc1
  have HC := Lib.hid (meetsSI L M_ F A n c l keep f t W0 hM hF hf ht ((hr.below hbw (Nat.le_refl _)).more hbw.size) hfit)
  have HB := Lib.hid hbw
  have HW0 := Lib.hid hW0
  clear hbw hW0 hr hfit hM hF hf ht hc0 hc1
  go_enter Tryz.func90, Tryz.ntmps90
  go_upto_region 1 with fail
  rw [← HW0.out]
  go_wp2_with fail
  go_at_call 80
  refine Calls.mono HC.out ?_
  rintro e w2 ⟨rfl, hb⟩
  have HB2 := Lib.hid (HB.out.trans (hb.mono HB.out.size))
  clear hb
  go_wp2
  go_ret
  exact ⟨rfl, HB2.out⟩

set_option maxHeartbeats 4000000 in
theorem spansI (w : World) (A0 A1 A2 A5 : Option Addr) (c0 c1 c2 c5 : Nat) (s : Sto) (hr : StM w w.heap.size A0 A1 A2 A5 c0 c1 c2 c5 s) (hsm : smallSt s) (hE : NoRoom w) (f t : ByteArray) (hf : f.size ≤ maxLen) (ht : t.size ≤ maxLen) :
    Calls Tryz.prog 34 #[stV A0 A1 A2 A5 c0 c1 c2 c5 s, .string f, .string t] w (LookA s (meetS f t) (keyB f && keyB t) w) := by
  obtain ⟨top, levels, sieves, keep, time, times⟩ := s
  obtain ⟨Wa, hWa⟩ : ∃ W, W = w.alloc (.cells #[.slice A0 top.length c0, .slice A1 levels.length c1, .slice A2 sieves.length c2, .int .i64 keep, .int .i64 time, .slice A5 times.length c5] 33) := ⟨_, rfl⟩
  obtain ⟨Wb, hWb⟩ : ∃ W, W = Wa.alloc (.cells #[.string f] 9) := ⟨_, rfl⟩
  obtain ⟨Wc, hWc⟩ : ∃ W, W = Wb.alloc (.cells #[.string t] 9) := ⟨_, rfl⟩
  have hba : Below w.heap.size w Wa := by rw [hWa]; exact (Below.refl _ _).alloc (Nat.le_refl _) _
  have hsa : Wa.heap.size = w.heap.size + 1 := by rw [hWa]; simp
  have hbb : Below Wa.heap.size Wa Wb := by rw [hWb]; exact (Below.refl _ _).alloc (Nat.le_refl _) _
  have hsb : Wb.heap.size = w.heap.size + 1 + 1 := by rw [hWb]; simp [hsa]
  have hbc : Below Wb.heap.size Wb Wc := by rw [hWc]; exact (Below.refl _ _).alloc (Nat.le_refl _) _
  have hbw : Below w.heap.size w Wc := (hba.trans (hbb.mono hba.size)).trans (hbc.mono (Nat.le_trans hba.size hbb.size))
  have x0 : Wb.cell? ⟨w.heap.size + 1, 0, none⟩ = some (.string f) := by rw [hWb, ← hsa, cell_of_row _ _ _ _ _ _ (heap_alloc_new Wa _)]; rfl
  have x1 : Wc.cell? ⟨w.heap.size + 1 + 1, 0, none⟩ = some (.string t) := by rw [hWc, ← hsb, cell_of_row _ _ _ _ _ _ (heap_alloc_new Wb _)]; rfl
  have hsc : Wc.heap.size = w.heap.size + 1 + 1 + 1 := by rw [hWc]; simp [hsb]
  have HCL := Lib.hid (show ∀ W, Below Wc.heap.size Wc W → W.cell? ⟨w.heap.size + 1, 0, none⟩ = some (.string f) from fun W hW => (hW.cell (p := ⟨w.heap.size + 1, 0, none⟩) (by show w.heap.size + 1 < _; rw [hsc]; omega)).trans ((hbc.cell (p := ⟨w.heap.size + 1, 0, none⟩) (by show w.heap.size + 1 < _; rw [hsb]; omega)).trans x0))
  have HCM := Lib.hid (show ∀ W, Below Wc.heap.size Wc W → W.cell? ⟨w.heap.size + 1 + 1, 0, none⟩ = some (.string t) from fun W hW => (hW.cell (p := ⟨w.heap.size + 1 + 1, 0, none⟩) (by show w.heap.size + 1 + 1 < _; rw [hsc]; omega)).trans x1)
  have xs : Wa.heap[w.heap.size]? = some (.cells #[.slice A0 top.length c0, .slice A1 levels.length c1, .slice A2 sieves.length c2, .int .i64 keep, .int .i64 time, .slice A5 times.length c5] 33 (0, 0)) := by rw [hWa]; exact heap_alloc_new _ _
  have xs2 : Wc.heap[w.heap.size]? = some (.cells #[.slice A0 top.length c0, .slice A1 levels.length c1, .slice A2 sieves.length c2, .int .i64 keep, .int .i64 time, .slice A5 times.length c5] 33 (0, 0)) := (hbc.block w.heap.size (by rw [hsb]; omega)).trans ((hbb.block w.heap.size (by rw [hsa]; omega)).trans xs)
  obtain ⟨b0, b1, b2, b3, b4, b5⟩ := st_cells xs2
  have HO := Lib.hid (openT Wc A0 A1 A2 A5 c0 c1 c2 c5 ⟨top, levels, sieves, keep, time, times⟩ (hr.own hbw (Nat.le_refl _)) hsm (hE.below hbw))
  have HB := Lib.hid hbw
  have HSM := Lib.hid hsm
  rw [hWa] at hWb
  rw [hWb] at hWc
  have HW0 := Lib.hid hWc
  clear hr hsm hE hbw hba hbb hbc hsc x1 hWc hsa hsb x0 xs xs2 hWb hWa
  simp only [stV] at *
  go_enter Tryz.func34, Tryz.ntmps34
  go_upto_region 1 with fail
  rw [← HW0.out]
  go_wp2_with fail
  go_at_call 69
  refine Calls.mono HO.out ?_
  rintro e w1 ⟨p, b, rfl, hb, hb1, htr⟩
  have HBB := Lib.hid hb
  have HB1 := Lib.hid hb1
  have HTR := Lib.hid htr
  clear hb hb1 htr b0 b1 b2 b3 b4 b5
  have k0 := HCL.out w1 HB1.out
  have k1 := HCM.out w1 HB1.out
  cases b with
  | false =>
    clear HTR
    go_wp2
    go_ret
    exact ⟨false, by simp [lookZ], (by simpa using HBB.out), HB.out.trans (HB1.out.mono HB.out.size)⟩
  | true =>
    obtain ⟨Wt, g, cur, A8, A9, k8, k9, l0, l1, l2, rfl, hlv, -, -, htk⟩ := HTR.out rfl
    clear HTR
    have hst := HBB.out.mp rfl
    have HSO := Lib.hid (sieves_of hst hlv)
    obtain ⟨A, B, n, c, m, d, hbox, hall⟩ := htk.G
    have HCO := Lib.hid (show ∀ W, w1 = W → Calls Tryz.prog 88 #[.pointer (some ⟨g, 0, none⟩), .func (.func 90) #[] #[.pointer (some ⟨w.heap.size + 1, 0, none⟩), .pointer (some ⟨w.heap.size + 1 + 1, 0, none⟩)]] W fun e w' => e = .returned (.int .i64 (lookZ ⟨top, levels, sieves, keep, time, times⟩ (meetS f t) true true)) ∧ Below W.heap.size W w' from fun W hW => by
      subst hW
      have hz : lookZ ⟨top, levels, sieves, keep, time, times⟩ (meetS f t) true true = cntB (fun i => meetS f t (f3 (sfOf l0 keep) (sfOf l1 keep) (sfOf l2 keep) i)) := by
        rw [cnt3 (meetS f t)]
        have h := HSO.out
        simp only at h
        simp only [lookZ, and_self, if_true]
        rw [h]
      rw [hz]
      refine countS w1 g A8 top.length k8 A B n c m d _ _ keep time (fun i => meetS f t (f3 (sfOf l0 keep) (sfOf l1 keep) (sfOf l2 keep) i)) ⟨w.heap.size + 1, 0, none⟩ ⟨w.heap.size + 1 + 1, 0, none⟩ hbox ?_
      intro W hW j hj
      have hmem : f3 (sfOf l0 keep) (sfOf l1 keep) (sfOf l2 keep) j ∈ sieves := by have h := HSO.out; simp only at h; rw [h]; exact f3_mem hj
      obtain ⟨f1, f2, f3', f4⟩ := smallS_fit (HSM.out.2.2.1.2 _ hmem)
      exact spansF W _ _ f t (HCL.out W (HB1.out.trans (hW.mono HB1.out.size))) (HCM.out W (HB1.out.trans (hW.mono HB1.out.size))) hf ht _ _ _ _ _ _ _ _ f2 f3' (((hall j hj).1.below hW (Nat.le_refl _)).more hW.size) f4)
    clear hbox hall hst hlv htk
    obtain ⟨q0, hq0⟩ : ∃ x, x = keyB f := ⟨_, rfl⟩
    have HQ0 := Lib.hid hq0
    have HK0 := Lib.hid (fun W => keyI f W hf)
    rw [← hq0] at HK0
    clear hq0
    obtain ⟨q1, hq1⟩ : ∃ x, x = keyB t := ⟨_, rfl⟩
    have HQ1 := Lib.hid hq1
    have HK1 := Lib.hid (fun W => keyI t W ht)
    rw [← hq1] at HK1
    clear hq1
    clear hf ht
    cases q0 with
    | false =>
      go_wp2_with fail
      go_at_call 70
      refine Calls.mono (HK0.out _) ?_
      rintro e w9 ⟨rfl, rfl⟩
      go_wp2
      go_ret
      exact ⟨true, by simp [lookZ, ← HQ0.out], (by simpa using HBB.out), HB.out.trans (HB1.out.mono HB.out.size)⟩
    | true =>
      cases q1 with
      | false =>
        go_wp2_with fail
        go_at_call 70
        refine Calls.mono (HK0.out _) ?_
        rintro e w9 ⟨rfl, rfl⟩
        go_wp2_with fail
        go_at_call 70
        refine Calls.mono (HK1.out _) ?_
        rintro e w9 ⟨rfl, rfl⟩
        go_wp2
        go_ret
        exact ⟨true, by simp [lookZ, ← HQ1.out], (by simpa using HBB.out), HB.out.trans (HB1.out.mono HB.out.size)⟩
      | true =>
        go_wp2_with fail
        go_at_call 70
        refine Calls.mono (HK0.out _) ?_
        rintro e w9 ⟨rfl, rfl⟩
        go_wp2_with fail
        go_at_call 70
        refine Calls.mono (HK1.out _) ?_
        rintro e w9 ⟨rfl, rfl⟩
        go_wp2_with fail
        go_at_call 88
        refine Calls.mono (HCO.out _ rfl) ?_
        rintro e w3 ⟨rfl, hb⟩
        have HB3 := Lib.hid (HB1.out.trans (hb.mono HB1.out.size))
        clear hb HCO
        go_wp2
        go_ret
        exact ⟨true, by rw [show (keyB f && keyB t) = true by rw [← HQ0.out, ← HQ1.out]; rfl]; rfl, (by simpa using HBB.out), HB.out.trans (HB3.out.mono HB.out.size)⟩

end Go.Proofs.YtfhpkcamigkmdaaGreatDoor.W
namespace Go.Proofs.YtfhpkcamigkmdaaGreatDoor.W
open Go.RowKit K R

set_option maxHeartbeats 4000000 in
theorem exactStoreLooks (w : World) (A0 A1 A2 A5 : Option Addr) (c0 c1 c2 c5 : Nat) (s : Sto) (hr : StM w w.heap.size A0 A1 A2 A5 c0 c1 c2 c5 s) (hf : fitSt s) (hE : NoRoom w) (k : ByteArray) :
    Calls Tryz.prog 9 #[stV A0 A1 A2 A5 c0 c1 c2 c5 s, .string k] w fun e w' => e = .returned (.bool true) ∧ Below w.heap.size w w' := by
  obtain ⟨top, levels, sieves, keep, time, times⟩ := s
  obtain ⟨W0, hW0⟩ : ∃ W0, W0 = w.alloc (.cells #[.slice A0 top.length c0, .slice A1 levels.length c1, .slice A2 sieves.length c2, .int .i64 keep, .int .i64 time, .slice A5 times.length c5] 27) := ⟨_, rfl⟩
  have hbw : Below w.heap.size w W0 := by rw [hW0]; exact (Below.refl _ _).alloc (Nat.le_refl _) _
  have hs0 : W0.heap.size = w.heap.size + 1 := by rw [hW0]; simp
  have x0 : W0.heap[w.heap.size]? = some (.cells #[.slice A0 top.length c0, .slice A1 levels.length c1, .slice A2 sieves.length c2, .int .i64 keep, .int .i64 time, .slice A5 times.length c5] 27 (0, 0)) := by rw [hW0]; exact heap_alloc_new _ _
  have HBX := Lib.hid (show ∀ W, Below W0.heap.size W0 W → _ from fun W hW => st_cells ((hW.block w.heap.size (by omega)).trans x0))
  have HZ := Lib.hid (szSt W0 A0 A1 A2 A5 c0 c1 c2 c5 ⟨top, levels, sieves, keep, time, times⟩ (hr.own hbw (Nat.le_refl _)) hf)
  have HR := Lib.hid (show ∀ W, Below W0.heap.size W0 W → StM W W.heap.size A0 A1 A2 A5 c0 c1 c2 c5 ⟨top, levels, sieves, keep, time, times⟩ from fun W hW => hr.own (hbw.trans (hW.mono hbw.size)) (Nat.le_refl _))
  have HE := Lib.hid (show ∀ W, Below W0.heap.size W0 W → NoRoom W from fun W hW => hE.below (hbw.trans (hW.mono hbw.size)))
  have HCP := Lib.hid (show smallSt ⟨top, levels, sieves, keep, time, times⟩ → ∀ W, Below W0.heap.size W0 W → Calls Tryz.prog 13 #[stV A0 A1 A2 A5 c0 c1 c2 c5 ⟨top, levels, sieves, keep, time, times⟩] W (NewSt W ⟨top, levels, sieves, keep, time, times⟩) from fun hss W hW => copySt W A0 A1 A2 A5 c0 c1 c2 c5 ⟨top, levels, sieves, keep, time, times⟩ (HR.out W hW) hss)
  have hev : stV A0 A1 A2 A5 c0 c1 c2 c5 ⟨top, levels, sieves, keep, time, times⟩ = .agg #[.slice A0 top.length c0, .slice A1 levels.length c1, .slice A2 sieves.length c2, .int .i64 keep, .int .i64 time, .slice A5 times.length c5] := rfl
  rw [hev] at HZ HCP
  have hgoal : stV A0 A1 A2 A5 c0 c1 c2 c5 ⟨top, levels, sieves, keep, time, times⟩ = .agg #[.slice A0 top.length c0, .slice A1 levels.length c1, .slice A2 sieves.length c2, .int .i64 keep, .int .i64 time, .slice A5 times.length c5] := rfl
  rw [hgoal]
  have HB := Lib.hid hbw
  have HW0 := Lib.hid hW0
  clear hr hf hE hbw hW0 hs0 x0 hev hgoal
  by_cases gk : k.size ≤ 1048576
  case neg =>
    have pk : (1048576 : Int) < (k.size : Int) := by omega
    go_enter Tryz.func9, Tryz.ntmps9
    go_wp2
    go_ret
    exact ⟨rfl, (by have h := HB.out; rwa [HW0.out] at h)⟩
  have nk : ¬ (1048576 : Int) < (k.size : Int) := by omega
  have hkk : k.size ≤ maxLen := by unfold maxLen; omega
  clear gk
  go_enter Tryz.func9, Tryz.ntmps9
  go_wp2_with fail
  rw [← HW0.out]
  go_at_call 11
  refine Calls.mono HZ.out ?_
  rintro e w1 ⟨x, rfl, hx0, hx1, hx2, hb1⟩
  have HB1 := Lib.hid hb1
  clear hb1
  obtain ⟨b0, b1', b2', b3, b4, b5⟩ := HBX.out w1 HB1.out
  by_cases hneg : x < 0
  · clear hx2
    go_wp2
    go_ret
    exact ⟨rfl, HB.out.trans (HB1.out.mono HB.out.size)⟩
  have HSM := Lib.hid (hx2 (by omega))
  clear hx2
  go_wp2_with fail
  go_at_call 13
  refine Calls.mono (HCP.out HSM.out w1 HB1.out) ?_
  rintro e w2 ⟨g0, g1, g2, g5, k0, k1, k2, k5, vs1, vs2, rfl, ho, hb⟩
  simp only [stV]
  have HS2 := Lib.hid ho.reads
  have HB2 := Lib.hid (HB1.out.trans (hb.mono HB1.out.size))
  clear ho hb
  go_wp2_with fail
  go_at_call 31
  refine Calls.mono (looksS w2 _ _ _ _ k0 k1 k2 k5 ⟨top, levels, sieves, keep, time, times⟩ HS2.out HSM.out k hkk) ?_
  rintro e w3 ⟨b1, rfl, hbb1, hb⟩
  have HQ1 := Lib.hid hbb1
  have HB3 := Lib.hid (HB2.out.trans (hb.mono HB2.out.size))
  clear hbb1 hb HS2 b0 b1' b2' b3 b4 b5
  obtain ⟨b0, b1', b2', b3, b4, b5⟩ := HBX.out w3 HB3.out
  go_wp2_with fail
  go_at_call 13
  refine Calls.mono (HCP.out HSM.out w3 HB3.out) ?_
  rintro e w4 ⟨h0, h1, h2, h5, j0, j1, j2, j5, us1, us2, rfl, ho, hb⟩
  simp only [stV]
  obtain ⟨W4, hW4⟩ : ∃ W, W = w4.alloc (.cells #[.slice (some ⟨h0, 0, none⟩) top.length j0, .slice (some ⟨h1, 0, none⟩) levels.length j1, .slice (some ⟨h2, 0, none⟩) sieves.length j2, .int .i64 keep, .int .i64 time, .slice (some ⟨h5, 0, none⟩) times.length j5] 33) := ⟨_, rfl⟩
  have hb4 : Below w4.heap.size w4 W4 := by rw [hW4]; exact (Below.refl _ _).alloc (Nat.le_refl _) _
  have x4 : W4.heap[w4.heap.size]? = some (.cells #[.slice (some ⟨h0, 0, none⟩) top.length j0, .slice (some ⟨h1, 0, none⟩) levels.length j1, .slice (some ⟨h2, 0, none⟩) sieves.length j2, .int .i64 keep, .int .i64 time, .slice (some ⟨h5, 0, none⟩) times.length j5] 33 (0, 0)) := by rw [hW4]; exact heap_alloc_new _ _
  have hl4 := (Array.getElem?_eq_some_iff.1 x4).1
  have HX4 := Lib.hid (show ∀ W, Below W4.heap.size W4 W → _ from fun W hW => st_cells ((hW.block w4.heap.size hl4).trans x4))
  have HS4 := Lib.hid (ho.reads.own hb4 (Nat.le_refl _))
  have hb04 := HB3.out.trans (hb.mono HB3.out.size)
  have HB4 := Lib.hid (hb04.trans (hb4.mono hb04.size))
  have HW4 := Lib.hid hW4
  clear ho hb hW4 hb4 x4 hl4 hb04
  go_wp2_with fail
  rw [← HW4.out]
  go_at_call 32
  refine Calls.mono (looksI W4 _ _ _ _ j0 j1 j2 j5 ⟨top, levels, sieves, keep, time, times⟩ HS4.out HSM.out (HE.out W4 HB4.out) k hkk) ?_
  rintro e w5 ⟨b2, rfl, hbb2, hb⟩
  have hbe : b2 = b1 := by rw [Bool.eq_iff_iff]; exact hbb2.trans HQ1.out.symm
  subst hbe
  have HB5 := Lib.hid (HB4.out.trans (hb.mono HB4.out.size))
  have HS5 := Lib.hid (HS4.out.own hb (Nat.le_refl _))
  have HB45 := Lib.hid hb
  clear hbb2 hb HS4 HQ1
  have HR5 := Lib.hid (Below.refl w5.heap.size w5)
  have HSS := Lib.hid (show ∀ W, Below w5.heap.size w5 W → (fun W : World => (W.cell? ⟨w4.heap.size, 0, none⟩ = some (.slice (some ⟨h0, 0, none⟩) top.length j0) ∧ W.cell? ⟨w4.heap.size, 1, none⟩ = some (.slice (some ⟨h1, 0, none⟩) levels.length j1) ∧ W.cell? ⟨w4.heap.size, 2, none⟩ = some (.slice (some ⟨h2, 0, none⟩) sieves.length j2) ∧ W.cell? ⟨w4.heap.size, 3, none⟩ = some (.int .i64 keep) ∧ W.cell? ⟨w4.heap.size, 4, none⟩ = some (.int .i64 time) ∧ W.cell? ⟨w4.heap.size, 5, none⟩ = some (.slice (some ⟨h5, 0, none⟩) times.length j5)) ∧ (W.cell? ⟨w.heap.size, 0, none⟩ = some (.slice A0 top.length c0) ∧ W.cell? ⟨w.heap.size, 1, none⟩ = some (.slice A1 levels.length c1) ∧ W.cell? ⟨w.heap.size, 2, none⟩ = some (.slice A2 sieves.length c2) ∧ W.cell? ⟨w.heap.size, 3, none⟩ = some (.int .i64 keep) ∧ W.cell? ⟨w.heap.size, 4, none⟩ = some (.int .i64 time) ∧ W.cell? ⟨w.heap.size, 5, none⟩ = some (.slice A5 times.length c5))) W from fun W hW => ⟨HX4.out W (HB45.out.trans (hW.mono HB45.out.size)), HBX.out W (HB5.out.trans (hW.mono HB5.out.size))⟩)
  have HTC := Lib.hid (show ∀ W, Below w5.heap.size w5 W → Calls Tryz.prog 13 #[.agg #[.slice A0 top.length c0, .slice A1 levels.length c1, .slice A2 sieves.length c2, .int .i64 keep, .int .i64 time, .slice A5 times.length c5]] W fun e w' => ∃ i0 i1 i2 i5 l0 l1 l2 l5, e = .returned (.agg #[.slice (some ⟨i0, 0, none⟩) top.length l0, .slice (some ⟨i1, 0, none⟩) levels.length l1, .slice (some ⟨i2, 0, none⟩) sieves.length l2, .int .i64 keep, .int .i64 time, .slice (some ⟨i5, 0, none⟩) times.length l5]) ∧ StM w' w'.heap.size (some ⟨i0, 0, none⟩) (some ⟨i1, 0, none⟩) (some ⟨i2, 0, none⟩) (some ⟨i5, 0, none⟩) l0 l1 l2 l5 ⟨top, levels, sieves, keep, time, times⟩ ∧ Below w5.heap.size w5 w' from fun W hW => by
    refine (HCP.out HSM.out W (HB5.out.trans (hW.mono HB5.out.size))).mono ?_
    rintro e w' ⟨i0, i1, i2, i5, l0, l1, l2, l5, ws1, ws2, he, ho, hb⟩
    exact ⟨i0, i1, i2, i5, l0, l1, l2, l5, he, ho.reads, hW.trans (hb.mono hW.size)⟩)
  have HEQ := Lib.hid (show ∀ W i0 i1 i2 i5 l0 l1 l2 l5, StM W W.heap.size (some ⟨i0, 0, none⟩) (some ⟨i1, 0, none⟩) (some ⟨i2, 0, none⟩) (some ⟨i5, 0, none⟩) l0 l1 l2 l5 ⟨top, levels, sieves, keep, time, times⟩ → Below w5.heap.size w5 W → Calls Tryz.prog 15 #[.agg #[.slice (some ⟨h0, 0, none⟩) top.length j0, .slice (some ⟨h1, 0, none⟩) levels.length j1, .slice (some ⟨h2, 0, none⟩) sieves.length j2, .int .i64 keep, .int .i64 time, .slice (some ⟨h5, 0, none⟩) times.length j5], .agg #[.slice (some ⟨i0, 0, none⟩) top.length l0, .slice (some ⟨i1, 0, none⟩) levels.length l1, .slice (some ⟨i2, 0, none⟩) sieves.length l2, .int .i64 keep, .int .i64 time, .slice (some ⟨i5, 0, none⟩) times.length l5]] W fun e w' => e = .returned (.bool true) ∧ Below w5.heap.size w5 w' from fun W i0 i1 i2 i5 l0 l1 l2 l5 hS hW =>
    (eqSt W _ _ _ _ _ _ _ _ j0 j1 j2 j5 l0 l1 l2 l5 ⟨top, levels, sieves, keep, time, times⟩ (HS5.out.own hW (Nat.le_refl _)) hS).mono fun _ _ ⟨x, y⟩ => ⟨x, hW.trans (y.mono hW.size)⟩)
  clear b0 b1' b2' b3 b4 b5
  obtain ⟨⟨y0, y1, y2, y3, y4, y5⟩, b0, b1', b2', b3, b4, b5⟩ := HSS.out w5 HR5.out
  all_goals
    go_upto_region 12 with fail
    go_region_held3 (fun W : World => (W.cell? ⟨w4.heap.size, 0, none⟩ = some (.slice (some ⟨h0, 0, none⟩) top.length j0) ∧ W.cell? ⟨w4.heap.size, 1, none⟩ = some (.slice (some ⟨h1, 0, none⟩) levels.length j1) ∧ W.cell? ⟨w4.heap.size, 2, none⟩ = some (.slice (some ⟨h2, 0, none⟩) sieves.length j2) ∧ W.cell? ⟨w4.heap.size, 3, none⟩ = some (.int .i64 keep) ∧ W.cell? ⟨w4.heap.size, 4, none⟩ = some (.int .i64 time) ∧ W.cell? ⟨w4.heap.size, 5, none⟩ = some (.slice (some ⟨h5, 0, none⟩) times.length j5)) ∧ (W.cell? ⟨w.heap.size, 0, none⟩ = some (.slice A0 top.length c0) ∧ W.cell? ⟨w.heap.size, 1, none⟩ = some (.slice A1 levels.length c1) ∧ W.cell? ⟨w.heap.size, 2, none⟩ = some (.slice A2 sieves.length c2) ∧ W.cell? ⟨w.heap.size, 3, none⟩ = some (.int .i64 keep) ∧ W.cell? ⟨w.heap.size, 4, none⟩ = some (.int .i64 time) ∧ W.cell? ⟨w.heap.size, 5, none⟩ = some (.slice A5 times.length c5))) (exact HSS.out _ (by first | exact HB7.out | exact HB6.out | exact bel2 HR5.out (by rfl) (by rfl) (by rfl) (by rfl))) (first | (go_at_call 13; refine Calls.mono (HTC.out _ (by first | exact HB7.out | exact HB6.out | exact bel2 HR5.out (by rfl) (by rfl) (by rfl) (by rfl))) ?_; rintro e w6 ⟨i0, i1, i2, i5, l0, l1, l2, l5, rfl, hs6, hb6⟩; have HB6 := Lib.hid hb6; have HS6 := Lib.hid hs6; clear hb6 hs6) | (go_at_call 15; refine Calls.mono (HEQ.out _ _ _ _ _ _ _ _ _ HS6.out HB6.out) ?_; rintro e w7 ⟨rfl, hb7⟩; have HB7 := Lib.hid hb7; clear hb7))
    all_goals
      go_wp2
      go_ret
      exact ⟨rfl, HB.out.trans ((HB5.out.trans (HB7.out.mono HB5.out.size)).mono HB.out.size)⟩

set_option maxHeartbeats 4000000 in
theorem exactStoreSpans (w : World) (A0 A1 A2 A5 : Option Addr) (c0 c1 c2 c5 : Nat) (s : Sto) (hr : StM w w.heap.size A0 A1 A2 A5 c0 c1 c2 c5 s) (hf : fitSt s) (hE : NoRoom w) (f t : ByteArray) :
    Calls Tryz.prog 10 #[stV A0 A1 A2 A5 c0 c1 c2 c5 s, .string f, .string t] w fun e w' => e = .returned (.bool true) ∧ Below w.heap.size w w' := by
  obtain ⟨top, levels, sieves, keep, time, times⟩ := s
  obtain ⟨W0, hW0⟩ : ∃ W0, W0 = w.alloc (.cells #[.slice A0 top.length c0, .slice A1 levels.length c1, .slice A2 sieves.length c2, .int .i64 keep, .int .i64 time, .slice A5 times.length c5] 27) := ⟨_, rfl⟩
  have hbw : Below w.heap.size w W0 := by rw [hW0]; exact (Below.refl _ _).alloc (Nat.le_refl _) _
  have hs0 : W0.heap.size = w.heap.size + 1 := by rw [hW0]; simp
  have x0 : W0.heap[w.heap.size]? = some (.cells #[.slice A0 top.length c0, .slice A1 levels.length c1, .slice A2 sieves.length c2, .int .i64 keep, .int .i64 time, .slice A5 times.length c5] 27 (0, 0)) := by rw [hW0]; exact heap_alloc_new _ _
  have HBX := Lib.hid (show ∀ W, Below W0.heap.size W0 W → _ from fun W hW => st_cells ((hW.block w.heap.size (by omega)).trans x0))
  have HZ := Lib.hid (szSt W0 A0 A1 A2 A5 c0 c1 c2 c5 ⟨top, levels, sieves, keep, time, times⟩ (hr.own hbw (Nat.le_refl _)) hf)
  have HR := Lib.hid (show ∀ W, Below W0.heap.size W0 W → StM W W.heap.size A0 A1 A2 A5 c0 c1 c2 c5 ⟨top, levels, sieves, keep, time, times⟩ from fun W hW => hr.own (hbw.trans (hW.mono hbw.size)) (Nat.le_refl _))
  have HE := Lib.hid (show ∀ W, Below W0.heap.size W0 W → NoRoom W from fun W hW => hE.below (hbw.trans (hW.mono hbw.size)))
  have HCP := Lib.hid (show smallSt ⟨top, levels, sieves, keep, time, times⟩ → ∀ W, Below W0.heap.size W0 W → Calls Tryz.prog 13 #[stV A0 A1 A2 A5 c0 c1 c2 c5 ⟨top, levels, sieves, keep, time, times⟩] W (NewSt W ⟨top, levels, sieves, keep, time, times⟩) from fun hss W hW => copySt W A0 A1 A2 A5 c0 c1 c2 c5 ⟨top, levels, sieves, keep, time, times⟩ (HR.out W hW) hss)
  have hev : stV A0 A1 A2 A5 c0 c1 c2 c5 ⟨top, levels, sieves, keep, time, times⟩ = .agg #[.slice A0 top.length c0, .slice A1 levels.length c1, .slice A2 sieves.length c2, .int .i64 keep, .int .i64 time, .slice A5 times.length c5] := rfl
  rw [hev] at HZ HCP
  have hgoal : stV A0 A1 A2 A5 c0 c1 c2 c5 ⟨top, levels, sieves, keep, time, times⟩ = .agg #[.slice A0 top.length c0, .slice A1 levels.length c1, .slice A2 sieves.length c2, .int .i64 keep, .int .i64 time, .slice A5 times.length c5] := rfl
  rw [hgoal]
  have HB := Lib.hid hbw
  have HW0 := Lib.hid hW0
  clear hr hf hE hbw hW0 hs0 x0 hev hgoal
  by_cases gf : f.size ≤ 1048576
  case neg =>
    have pf : (1048576 : Int) < (f.size : Int) := by omega
    go_enter Tryz.func10, Tryz.ntmps10
    go_wp2
    go_ret
    exact ⟨rfl, (by have h := HB.out; rwa [HW0.out] at h)⟩
  have nf : ¬ (1048576 : Int) < (f.size : Int) := by omega
  have hkf : f.size ≤ maxLen := by unfold maxLen; omega
  clear gf
  by_cases gt : t.size ≤ 1048576
  case neg =>
    have pt : (1048576 : Int) < (t.size : Int) := by omega
    go_enter Tryz.func10, Tryz.ntmps10
    go_wp2
    go_ret
    exact ⟨rfl, (by have h := HB.out; rwa [HW0.out] at h)⟩
  have nt : ¬ (1048576 : Int) < (t.size : Int) := by omega
  have hkt : t.size ≤ maxLen := by unfold maxLen; omega
  clear gt
  go_enter Tryz.func10, Tryz.ntmps10
  go_wp2_with fail
  rw [← HW0.out]
  go_at_call 11
  refine Calls.mono HZ.out ?_
  rintro e w1 ⟨x, rfl, hx0, hx1, hx2, hb1⟩
  have HB1 := Lib.hid hb1
  clear hb1
  obtain ⟨b0, b1', b2', b3, b4, b5⟩ := HBX.out w1 HB1.out
  by_cases hneg : x < 0
  · clear hx2
    go_wp2
    go_ret
    exact ⟨rfl, HB.out.trans (HB1.out.mono HB.out.size)⟩
  have HSM := Lib.hid (hx2 (by omega))
  clear hx2
  go_wp2_with fail
  go_at_call 13
  refine Calls.mono (HCP.out HSM.out w1 HB1.out) ?_
  rintro e w2 ⟨g0, g1, g2, g5, k0, k1, k2, k5, vs1, vs2, rfl, ho, hb⟩
  simp only [stV]
  have HS2 := Lib.hid ho.reads
  have HB2 := Lib.hid (HB1.out.trans (hb.mono HB1.out.size))
  clear ho hb
  go_wp2_with fail
  go_at_call 33
  refine Calls.mono (spansS w2 _ _ _ _ k0 k1 k2 k5 ⟨top, levels, sieves, keep, time, times⟩ HS2.out HSM.out f t hkf hkt) ?_
  rintro e w3 ⟨b1, rfl, hbb1, hb⟩
  have HQ1 := Lib.hid hbb1
  have HB3 := Lib.hid (HB2.out.trans (hb.mono HB2.out.size))
  clear hbb1 hb HS2 b0 b1' b2' b3 b4 b5
  obtain ⟨b0, b1', b2', b3, b4, b5⟩ := HBX.out w3 HB3.out
  go_wp2_with fail
  go_at_call 13
  refine Calls.mono (HCP.out HSM.out w3 HB3.out) ?_
  rintro e w4 ⟨h0, h1, h2, h5, j0, j1, j2, j5, us1, us2, rfl, ho, hb⟩
  simp only [stV]
  obtain ⟨W4, hW4⟩ : ∃ W, W = w4.alloc (.cells #[.slice (some ⟨h0, 0, none⟩) top.length j0, .slice (some ⟨h1, 0, none⟩) levels.length j1, .slice (some ⟨h2, 0, none⟩) sieves.length j2, .int .i64 keep, .int .i64 time, .slice (some ⟨h5, 0, none⟩) times.length j5] 33) := ⟨_, rfl⟩
  have hb4 : Below w4.heap.size w4 W4 := by rw [hW4]; exact (Below.refl _ _).alloc (Nat.le_refl _) _
  have x4 : W4.heap[w4.heap.size]? = some (.cells #[.slice (some ⟨h0, 0, none⟩) top.length j0, .slice (some ⟨h1, 0, none⟩) levels.length j1, .slice (some ⟨h2, 0, none⟩) sieves.length j2, .int .i64 keep, .int .i64 time, .slice (some ⟨h5, 0, none⟩) times.length j5] 33 (0, 0)) := by rw [hW4]; exact heap_alloc_new _ _
  have hl4 := (Array.getElem?_eq_some_iff.1 x4).1
  have HX4 := Lib.hid (show ∀ W, Below W4.heap.size W4 W → _ from fun W hW => st_cells ((hW.block w4.heap.size hl4).trans x4))
  have HS4 := Lib.hid (ho.reads.own hb4 (Nat.le_refl _))
  have hb04 := HB3.out.trans (hb.mono HB3.out.size)
  have HB4 := Lib.hid (hb04.trans (hb4.mono hb04.size))
  have HW4 := Lib.hid hW4
  clear ho hb hW4 hb4 x4 hl4 hb04
  go_wp2_with fail
  rw [← HW4.out]
  go_at_call 34
  refine Calls.mono (spansI W4 _ _ _ _ j0 j1 j2 j5 ⟨top, levels, sieves, keep, time, times⟩ HS4.out HSM.out (HE.out W4 HB4.out) f t hkf hkt) ?_
  rintro e w5 ⟨b2, rfl, hbb2, hb⟩
  have hbe : b2 = b1 := by rw [Bool.eq_iff_iff]; exact hbb2.trans HQ1.out.symm
  subst hbe
  have HB5 := Lib.hid (HB4.out.trans (hb.mono HB4.out.size))
  have HS5 := Lib.hid (HS4.out.own hb (Nat.le_refl _))
  have HB45 := Lib.hid hb
  clear hbb2 hb HS4 HQ1
  have HR5 := Lib.hid (Below.refl w5.heap.size w5)
  have HSS := Lib.hid (show ∀ W, Below w5.heap.size w5 W → (fun W : World => (W.cell? ⟨w4.heap.size, 0, none⟩ = some (.slice (some ⟨h0, 0, none⟩) top.length j0) ∧ W.cell? ⟨w4.heap.size, 1, none⟩ = some (.slice (some ⟨h1, 0, none⟩) levels.length j1) ∧ W.cell? ⟨w4.heap.size, 2, none⟩ = some (.slice (some ⟨h2, 0, none⟩) sieves.length j2) ∧ W.cell? ⟨w4.heap.size, 3, none⟩ = some (.int .i64 keep) ∧ W.cell? ⟨w4.heap.size, 4, none⟩ = some (.int .i64 time) ∧ W.cell? ⟨w4.heap.size, 5, none⟩ = some (.slice (some ⟨h5, 0, none⟩) times.length j5)) ∧ (W.cell? ⟨w.heap.size, 0, none⟩ = some (.slice A0 top.length c0) ∧ W.cell? ⟨w.heap.size, 1, none⟩ = some (.slice A1 levels.length c1) ∧ W.cell? ⟨w.heap.size, 2, none⟩ = some (.slice A2 sieves.length c2) ∧ W.cell? ⟨w.heap.size, 3, none⟩ = some (.int .i64 keep) ∧ W.cell? ⟨w.heap.size, 4, none⟩ = some (.int .i64 time) ∧ W.cell? ⟨w.heap.size, 5, none⟩ = some (.slice A5 times.length c5))) W from fun W hW => ⟨HX4.out W (HB45.out.trans (hW.mono HB45.out.size)), HBX.out W (HB5.out.trans (hW.mono HB5.out.size))⟩)
  have HTC := Lib.hid (show ∀ W, Below w5.heap.size w5 W → Calls Tryz.prog 13 #[.agg #[.slice A0 top.length c0, .slice A1 levels.length c1, .slice A2 sieves.length c2, .int .i64 keep, .int .i64 time, .slice A5 times.length c5]] W fun e w' => ∃ i0 i1 i2 i5 l0 l1 l2 l5, e = .returned (.agg #[.slice (some ⟨i0, 0, none⟩) top.length l0, .slice (some ⟨i1, 0, none⟩) levels.length l1, .slice (some ⟨i2, 0, none⟩) sieves.length l2, .int .i64 keep, .int .i64 time, .slice (some ⟨i5, 0, none⟩) times.length l5]) ∧ StM w' w'.heap.size (some ⟨i0, 0, none⟩) (some ⟨i1, 0, none⟩) (some ⟨i2, 0, none⟩) (some ⟨i5, 0, none⟩) l0 l1 l2 l5 ⟨top, levels, sieves, keep, time, times⟩ ∧ Below w5.heap.size w5 w' from fun W hW => by
    refine (HCP.out HSM.out W (HB5.out.trans (hW.mono HB5.out.size))).mono ?_
    rintro e w' ⟨i0, i1, i2, i5, l0, l1, l2, l5, ws1, ws2, he, ho, hb⟩
    exact ⟨i0, i1, i2, i5, l0, l1, l2, l5, he, ho.reads, hW.trans (hb.mono hW.size)⟩)
  have HEQ := Lib.hid (show ∀ W i0 i1 i2 i5 l0 l1 l2 l5, StM W W.heap.size (some ⟨i0, 0, none⟩) (some ⟨i1, 0, none⟩) (some ⟨i2, 0, none⟩) (some ⟨i5, 0, none⟩) l0 l1 l2 l5 ⟨top, levels, sieves, keep, time, times⟩ → Below w5.heap.size w5 W → Calls Tryz.prog 15 #[.agg #[.slice (some ⟨h0, 0, none⟩) top.length j0, .slice (some ⟨h1, 0, none⟩) levels.length j1, .slice (some ⟨h2, 0, none⟩) sieves.length j2, .int .i64 keep, .int .i64 time, .slice (some ⟨h5, 0, none⟩) times.length j5], .agg #[.slice (some ⟨i0, 0, none⟩) top.length l0, .slice (some ⟨i1, 0, none⟩) levels.length l1, .slice (some ⟨i2, 0, none⟩) sieves.length l2, .int .i64 keep, .int .i64 time, .slice (some ⟨i5, 0, none⟩) times.length l5]] W fun e w' => e = .returned (.bool true) ∧ Below w5.heap.size w5 w' from fun W i0 i1 i2 i5 l0 l1 l2 l5 hS hW =>
    (eqSt W _ _ _ _ _ _ _ _ j0 j1 j2 j5 l0 l1 l2 l5 ⟨top, levels, sieves, keep, time, times⟩ (HS5.out.own hW (Nat.le_refl _)) hS).mono fun _ _ ⟨x, y⟩ => ⟨x, hW.trans (y.mono hW.size)⟩)
  clear b0 b1' b2' b3 b4 b5
  obtain ⟨⟨y0, y1, y2, y3, y4, y5⟩, b0, b1', b2', b3, b4, b5⟩ := HSS.out w5 HR5.out
  all_goals
    go_upto_region 14 with fail
    go_region_held3 (fun W : World => (W.cell? ⟨w4.heap.size, 0, none⟩ = some (.slice (some ⟨h0, 0, none⟩) top.length j0) ∧ W.cell? ⟨w4.heap.size, 1, none⟩ = some (.slice (some ⟨h1, 0, none⟩) levels.length j1) ∧ W.cell? ⟨w4.heap.size, 2, none⟩ = some (.slice (some ⟨h2, 0, none⟩) sieves.length j2) ∧ W.cell? ⟨w4.heap.size, 3, none⟩ = some (.int .i64 keep) ∧ W.cell? ⟨w4.heap.size, 4, none⟩ = some (.int .i64 time) ∧ W.cell? ⟨w4.heap.size, 5, none⟩ = some (.slice (some ⟨h5, 0, none⟩) times.length j5)) ∧ (W.cell? ⟨w.heap.size, 0, none⟩ = some (.slice A0 top.length c0) ∧ W.cell? ⟨w.heap.size, 1, none⟩ = some (.slice A1 levels.length c1) ∧ W.cell? ⟨w.heap.size, 2, none⟩ = some (.slice A2 sieves.length c2) ∧ W.cell? ⟨w.heap.size, 3, none⟩ = some (.int .i64 keep) ∧ W.cell? ⟨w.heap.size, 4, none⟩ = some (.int .i64 time) ∧ W.cell? ⟨w.heap.size, 5, none⟩ = some (.slice A5 times.length c5))) (exact HSS.out _ (by first | exact HB7.out | exact HB6.out | exact bel2 HR5.out (by rfl) (by rfl) (by rfl) (by rfl))) (first | (go_at_call 13; refine Calls.mono (HTC.out _ (by first | exact HB7.out | exact HB6.out | exact bel2 HR5.out (by rfl) (by rfl) (by rfl) (by rfl))) ?_; rintro e w6 ⟨i0, i1, i2, i5, l0, l1, l2, l5, rfl, hs6, hb6⟩; have HB6 := Lib.hid hb6; have HS6 := Lib.hid hs6; clear hb6 hs6) | (go_at_call 15; refine Calls.mono (HEQ.out _ _ _ _ _ _ _ _ _ HS6.out HB6.out) ?_; rintro e w7 ⟨rfl, hb7⟩; have HB7 := Lib.hid hb7; clear hb7))
    all_goals
      go_wp2
      go_ret
      exact ⟨rfl, HB.out.trans ((HB5.out.trans (HB7.out.mono HB5.out.size)).mono HB.out.size)⟩

end Go.Proofs.YtfhpkcamigkmdaaGreatDoor.W
