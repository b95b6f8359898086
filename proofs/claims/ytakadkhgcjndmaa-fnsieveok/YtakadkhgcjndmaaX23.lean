/-
  Contracts of the program's validTrie, SieveOk, SieveSize, SieveHeads and SieveHas, at every filter.
-/
import Derived.Test.YtakadkhgcjndmaaX22
import Derived.Test.YtakadkhgcjndmaaX17
import Derived.Test.YtakadkhgcjndmaaJA
import Derived.Test.YtakadkhgcjndmaaJ8
import Derived.Test.YtakadkhgcjndmaaV27
namespace Go.Proofs.Ytakadkhgcjndmaa.W
open Go.RowKit K

/-- what validTrie answers, at every filter -/
def ValidA (w : World) (L M_ F : ByteArray) (l : List ByteArray) (keep : Int) (e : Ending) (w' : World) : Prop :=
  (svB L M_ F l keep = true ∧ ∃ kp : Nat, keep = kp ∧ kp ≤ 5 ∧ RdFit L M_ F l kp ∧ ∃ A c, e = .returned (.tuple #[.slice A (svOf L M_ F l kp).top c, .bool true]) ∧ Trs w' (fun k => w'.heap.size ≤ k) A (svOf L M_ F l kp).top (svOf L M_ F l kp).rd ∧ Below w.heap.size w w') ∨
  (svB L M_ F l keep = false ∧ ∃ A n c, e = .returned (.tuple #[.slice A n c, .bool false]) ∧ Below w.heap.size w w')

set_option maxHeartbeats 2000000 in
theorem validI (L M_ F : ByteArray) (A : Option Addr) (n c : Nat) (l : List ByteArray) (keep : Int) (w : World) (hM : M_.size ≤ maxLen) (hF : F.size ≤ maxLen) (hr : Strs w w.heap.size A n l) (hfit : ∀ i (h : i < l.length), l[i].size ≤ 1000000000000) :
    Calls Try.prog 79 #[.agg #[.string L, .string M_, .string F, .slice A n c, .int .i64 keep]] w (ValidA w L M_ F l keep) := by
  have hln := hr.len
  subst hln
  rcases Bool.eq_false_or_eq_true (formB L M_ F l.length keep) with hfo | hfo
  · obtain ⟨p1, p2, p3, p4, p5, p6⟩ := form_parts hfo
    obtain ⟨kp, rfl⟩ := Int.eq_ofNat_of_zero_le p5
    refine (validC L M_ F A l.length c l kp w hr hfo hfit (fun W hs => readYes L M_ F A l.length c l kp W hs hfo)).mono ?_
    rintro e w' (⟨h1, A1, c1, rfl, h2, -, -, h3⟩ | ⟨h1, A1, n1, c1, rfl, h3⟩)
    · exact .inl ⟨h1, kp, rfl, by omega, rd_fit hfo hfit (kpt_is (svB_is h1)).1, A1, c1, rfl, h2, h3⟩
    · exact .inr ⟨h1, A1, n1, c1, rfl, h3⟩
  · have hsv := Lib.hid (show svB L M_ F l keep = false by unfold svB; rw [hfo]; rfl)
    have HRN := Lib.hid (fun W => readNo L M_ F A l.length c keep W hM hF hfo)
    clear hfo hfit hr
    go_enter Try.func79, Try.ntmps79
    go_wp2_with fail
    go_at_call 118
    refine (HRN.out _).mono ?_
    rintro e w1 ⟨rfl, hb1⟩
    have HBB := Lib.hid (((Below.refl w.heap.size w).alloc (Nat.le_refl _) (.cells #[.string L, .string M_, .string F, .slice A l.length c, .int .i64 keep] 27)).trans (hb1.mono (by simp)))
    clear hb1
    go_wp2
    go_ret2
    exact .inr ⟨hsv.out, _, _, _, rfl, HBB.out⟩

/-- a world that has grown by what a walk has made -/
theorem bel_al2 {a W : World} {o o2 : Obj} (h1 : W.heap = ((a.alloc o).alloc o2).heap) (h2 : W.os = a.os) (h3 : W.tape = a.tape) (h4 : W.output = a.output) : Below a.heap.size a W := ⟨h2, h3, h4, by rw [h1]; simp; omega, fun k hk => by rw [h1, Below.heap_alloc _ _ _ (by simp; omega)]; exact Below.heap_alloc _ _ _ hk⟩
theorem validW {L M_ F : ByteArray} {A : Option Addr} {n c : Nat} {l : List ByteArray} {keep : Int} {w : World} (hM : M_.size ≤ maxLen) (hF : F.size ≤ maxLen) (hr : Strs w w.heap.size A n l) (hfit : ∀ i (h : i < l.length), l[i].size ≤ 1000000000000) :
    ∀ W, Below w.heap.size w W → Calls Try.prog 79 #[.agg #[.string L, .string M_, .string F, .slice A n c, .int .i64 keep]] W (ValidA W L M_ F l keep) := fun W hW =>
  validI L M_ F A n c l keep W hM hF ((hr.below hW (Nat.le_refl _)).more hW.size) hfit

set_option maxHeartbeats 1000000 in
theorem okSI (L M_ F : ByteArray) (A : Option Addr) (n c : Nat) (l : List ByteArray) (keep : Int) (w : World) (hM : M_.size ≤ maxLen) (hF : F.size ≤ maxLen) (hr : Strs w w.heap.size A n l) (hfit : ∀ i (h : i < l.length), l[i].size ≤ 1000000000000) :
    Calls Try.prog 41 #[.agg #[.string L, .string M_, .string F, .slice A n c, .int .i64 keep]] w fun e w' => e = .returned (.bool (svB L M_ F l keep)) ∧ Below w.heap.size w w' := by
  have HV := Lib.hid (validW (L := L) (c := c) (keep := keep) hM hF hr hfit)
  clear hr hfit
  go_enter Try.func41, Try.ntmps41
  go_wp2_with fail
  go_at_call 79
  refine Calls.mono (HV.out _ (by first | exact Below.refl _ _ | exact bel_same (by rfl) (by rfl) (by rfl) (by rfl) | exact bel_al (by rfl) (by rfl) (by rfl) (by rfl))) ?_
  rintro e w1 (⟨h1, kp, hkp, -, -, A1, c1, rfl, -, hb1⟩ | ⟨h1, A1, n1, c1, rfl, hb1⟩)
  · have HS := Lib.hid h1
    have HB := Lib.hid hb1
    clear hb1 hkp h1
    go_wp2
    go_ret
    exact ⟨ret_bool HS.out.symm, by first | exact HB.out | exact ((Below.refl w.heap.size w).alloc (Nat.le_refl _) _).trans (HB.out.mono (by simp))⟩
  · have HS := Lib.hid h1
    have HB := Lib.hid hb1
    clear hb1 h1
    go_wp2
    go_ret
    exact ⟨ret_bool HS.out.symm, by first | exact HB.out | exact ((Below.refl w.heap.size w).alloc (Nat.le_refl _) _).trans (HB.out.mono (by simp))⟩

set_option maxHeartbeats 1000000 in
theorem sizeI (L M_ F : ByteArray) (A : Option Addr) (n c : Nat) (l : List ByteArray) (keep : Int) (w : World) (hM : M_.size ≤ maxLen) (hF : F.size ≤ maxLen) (hr : Strs w w.heap.size A n l) (hfit : ∀ i (h : i < l.length), l[i].size ≤ 1000000000000) :
    Calls Try.prog 47 #[.agg #[.string L, .string M_, .string F, .slice A n c, .int .i64 keep]] w fun e w' => e = .returned (.int .i64 (sizeO L M_ F l keep)) ∧ Below w.heap.size w w' := by
  have hbw : Below w.heap.size w (w.alloc (.cells #[.string L, .string M_, .string F, .slice A n c, .int .i64 keep] 27)) := (Below.refl _ _).alloc (Nat.le_refl _) _
  have HV := Lib.hid (okSI L M_ F A n c l keep _ hM hF ((hr.below hbw (Nat.le_refl _)).more hbw.size) hfit)
  clear hr hfit hbw
  rcases Bool.eq_false_or_eq_true (svB L M_ F l keep) with h1 | h1
  · have HS := Lib.hid (show sizeO L M_ F l keep = (L.size : Int) by unfold sizeO; rw [if_pos h1])
    rw [h1] at HV
    clear h1
    go_enter Try.func47, Try.ntmps47
    go_wp2_with fail
    go_at_call 41
    refine HV.out.mono ?_
    rintro e w1 ⟨rfl, hb1⟩
    have hbx : w1.heap[w.heap.size]? = some (.cells #[.string L, .string M_, .string F, .slice A n c, .int .i64 keep] 27 (0, 0)) := by rw [hb1.block _ (by simp)]; exact heap_alloc_new _ _
    have b0 : w1.cell? ⟨w.heap.size, 0, none⟩ = some (.string L) := by rw [cell_of_row _ _ _ _ _ _ hbx]; rfl
    have HBB := Lib.hid (((Below.refl w.heap.size w).alloc (Nat.le_refl _) (.cells #[.string L, .string M_, .string F, .slice A n c, .int .i64 keep] 27)).trans (hb1.mono (by simp)))
    clear hb1 hbx
    go_wp2
    go_ret
    exact ⟨ret_int HS.out.symm, HBB.out⟩
  · have HS := Lib.hid (show sizeO L M_ F l keep = -1 by unfold sizeO; rw [if_neg (by rw [h1]; decide)])
    rw [h1] at HV
    clear h1
    go_enter Try.func47, Try.ntmps47
    go_wp2_with fail
    go_at_call 41
    refine HV.out.mono ?_
    rintro e w1 ⟨rfl, hb1⟩
    have HBB := Lib.hid (((Below.refl w.heap.size w).alloc (Nat.le_refl _) (.cells #[.string L, .string M_, .string F, .slice A n c, .int .i64 keep] 27)).trans (hb1.mono (by simp)))
    clear hb1
    go_wp2
    go_ret
    exact ⟨ret_int HS.out.symm, HBB.out⟩

/-- the kept parts of a filter that is one, as they are read -/
theorem kpt_hs {L M_ F : ByteArray} {l : List ByteArray} {kp : Nat} (h : svB L M_ F l kp = true) : (kpt (svOf L M_ F l kp)).map (fun h => ba h.1) = hsOf L M_ F l kp := by
  rw [(kpt_is (svB_is h)).2.1, List.map_map]
  rfl

/-- what SieveHeads answers -/
def headsO (L M_ F : ByteArray) (R : List ByteArray) (keep : Int) : List ByteArray := if svB L M_ F R keep = true then hsOf L M_ F R keep.toNat else []
theorem headsO_yes {L M_ F : ByteArray} {R : List ByteArray} {kp : Nat} (h : svB L M_ F R kp = true) : headsO L M_ F R kp = hsOf L M_ F R kp := by
  unfold headsO
  rw [if_pos h, Int.toNat_natCast]
theorem headsO_no {L M_ F : ByteArray} {R : List ByteArray} {keep : Int} (h : svB L M_ F R keep = false) : headsO L M_ F R keep = [] := by
  unfold headsO
  rw [if_neg (by rw [h]; decide)]

set_option maxHeartbeats 1000000 in
theorem headsSI (L M_ F : ByteArray) (A : Option Addr) (n c : Nat) (l : List ByteArray) (keep : Int) (w : World) (hM : M_.size ≤ maxLen) (hF : F.size ≤ maxLen) (hr : Strs w w.heap.size A n l) (hfit : ∀ i (h : i < l.length), l[i].size ≤ 1000000000000) :
    Calls Try.prog 34 #[.agg #[.string L, .string M_, .string F, .slice A n c, .int .i64 keep]] w (New w (headsO L M_ F l keep)) := by
  have HV := Lib.hid (validW (L := L) (c := c) (keep := keep) hM hF hr hfit)
  clear hr hfit
  go_enter Try.func34, Try.ntmps34
  go_wp2_with fail
  go_at_call 79
  refine Calls.mono (HV.out _ (by first | exact Below.refl _ _ | exact bel_same (by rfl) (by rfl) (by rfl) (by rfl) | exact bel_al (by rfl) (by rfl) (by rfl) (by rfl))) ?_
  rintro e w1 (⟨h1, kp, rfl, hkp, hfitr, A1, c1, rfl, htr, hb1⟩ | ⟨h1, A1, n1, c1, rfl, hb1⟩)
  · have HSV := Lib.hid h1
    have HKH := Lib.hid (kpt_hs h1)
    have HB := Lib.hid (show Below w.heap.size w w1 by first | exact hb1 | exact ((Below.refl w.heap.size w).alloc (Nat.le_refl _) _).trans (hb1.mono (by simp)))
    have hlt1 := HB.out.size
    have HHD := Lib.hid (headsI _ hfitr.ahead hfitr.nodes A1 (svOf L M_ F l kp).top c1 (by have := hfitr.top; omega) (svOf L M_ F l kp).rd.length 0 [] w1 w1.heap.size (by omega) hfitr.pos htr (Nat.le_refl _) (by have := hfitr.cnt; unfold kpt at this; omega) (by have := hfitr.top; have := hfitr.len; simp; omega))
    have HCN := Lib.hid hfitr.cnt
    obtain ⟨tp, htp⟩ : ∃ t, t = (svOf L M_ F l kp).top := ⟨_, rfl⟩
    rw [← htp] at HHD ⊢
    clear hb1 h1 htr hfitr htp
    go_wp2_with fail
    go_at_call 83
    refine HHD.out.mono ?_
    rintro e w2 ⟨v2, rfl, ho2, hb2⟩
    obtain ⟨A2, c2, hv2, hc2, hm2⟩ := ho2.parts_
    subst hv2
    have HTX := Lib.hid (textsI w2 w2.heap.size _ c2 A2 _ (OwnH.hds ho2) (Nat.le_refl _) (by have := HCN.out; unfold kpt at this; omega))
    have HB2 := Lib.hid (HB.out.trans (hb2.mono hlt1))
    obtain ⟨n2, hn2⟩ : ∃ x, x = (T.hdT (svOf L M_ F l kp).rd (svOf L M_ F l kp).rd.length 0 []).length := ⟨_, rfl⟩
    rw [← hn2] at HTX ⊢
    clear ho2 hb2 hc2 hm2 hn2
    go_wp2_with fail
    go_at_call 82
    refine HTX.out.mono ?_
    rintro e w3 ⟨v3, rfl, ho3, hb3⟩
    have HO3 := Lib.hid ho3
    have HB3 := Lib.hid (HB2.out.trans (hb3.mono HB2.out.size))
    clear ho3 hb3
    go_wp2
    go_ret
    rw [headsO_yes HSV.out]
    refine ⟨_, rfl, ?_, HB3.out⟩
    rw [← HKH.out]
    exact HO3.out.base HB2.out.size
  · have HSV := Lib.hid h1
    have HB := Lib.hid (show Below w.heap.size w w1 by first | exact hb1 | exact ((Below.refl w.heap.size w).alloc (Nat.le_refl _) _).trans (hb1.mono (by simp)))
    clear hb1 h1
    go_wp2
    go_ret
    rw [headsO_no HSV.out]
    exact ⟨_, rfl, Own.none_ _ _, HB.out⟩

/-- the trie of a filter that is one has a key just if the filter has -/
theorem has_kpt {L M_ F : ByteArray} {l : List ByteArray} {kp : Nat} {k : ByteArray} (h : svB L M_ F l kp = true) (hk : keyB k = true) : T.hasT (svOf L M_ F l kp).rd k.toList (k.size + 1) 0 0 = T.hasK kp (svOf L M_ F l kp).heads k.toList := by
  have hi := svB_is h
  rw [(kpt_is hi).2.2]
  have := T.has_sieve hi.1 kp (isKey_of hk)
  rw [len_L] at this
  exact this

set_option maxHeartbeats 1000000 in
theorem hasSI (L M_ F : ByteArray) (A : Option Addr) (n c : Nat) (l : List ByteArray) (keep : Int) (k : ByteArray) (w : World) (hM : M_.size ≤ maxLen) (hF : F.size ≤ maxLen) (hks : k.size ≤ maxLen) (hr : Strs w w.heap.size A n l) (hfit : ∀ i (h : i < l.length), l[i].size ≤ 1000000000000) :
    Calls Try.prog 32 #[.agg #[.string L, .string M_, .string F, .slice A n c, .int .i64 keep], .string k] w fun e w' => e = .returned (.bool (hasO L M_ F l keep k)) ∧ Below w.heap.size w w' := by
  have HV := Lib.hid (validW (L := L) (c := c) (keep := keep) hM hF hr hfit)
  have HK := Lib.hid (fun W => keyI k W hks)
  clear hr hfit
  go_enter Try.func32, Try.ntmps32
  go_wp2_with fail
  go_at_call 79
  refine Calls.mono (HV.out _ (by first | exact Below.refl _ _ | exact bel_same (by rfl) (by rfl) (by rfl) (by rfl) | exact bel_al (by rfl) (by rfl) (by rfl) (by rfl))) ?_
  rintro e w1 (⟨h1, kp, rfl, hkp, hfitr, A1, c1, rfl, htr, hb1⟩ | ⟨h1, A1, n1, c1, rfl, hb1⟩)
  · have HB := Lib.hid (show Below w.heap.size w w1 by first | exact hb1 | exact ((Below.refl w.heap.size w).alloc (Nat.le_refl _) _).trans (hb1.mono (by simp)))
    have hlt1 := HB.out.size
    obtain ⟨tp, htp⟩ : ∃ t, t = (svOf L M_ F l kp).top := ⟨_, rfl⟩
    rcases Bool.eq_false_or_eq_true (keyB k) with g | g
    · have hk5 : k.size ≤ 5 := by unfold keyB at g; simp only [Bool.and_eq_true, decide_eq_true_eq] at g; exact g.1
      have HHA := Lib.hid (hasI _ hfitr.ahead (fun x hx => (hfitr.nodes x hx).1) hfitr.pos A1 (svOf L M_ F l kp).top c1 (by have := hfitr.top; omega) k (by omega) w1 w1.heap.size htr (Nat.le_refl _))
      have HRE := Lib.hid (show hasO L M_ F l kp k = T.hasT (svOf L M_ F l kp).rd k.toList (k.size + 1) 0 0 by unfold hasO; rw [h1, g, Int.toNat_natCast, has_kpt h1 g]; rfl)
      rw [← HRE.out] at HHA
      rw [← htp] at HHA ⊢
      rw [g] at HK
      obtain ⟨R, hR⟩ : ∃ R, R = hasO L M_ F l kp k := ⟨_, rfl⟩
      rw [← hR] at HHA
      have HRR := Lib.hid hR
      clear hb1 h1 htr hfitr htp g hR HRE
      go_wp2_with (first
        | (go_at_call 80; refine (HK.out _).mono ?_; rintro e w2 ⟨rfl, hw2⟩; subst hw2)
        | (go_at_call 81; refine HHA.out.mono ?_; rintro e w3 ⟨rfl, hb3⟩; have HB3 := Lib.hid hb3; clear hb3))
      go_ret
      exact ⟨ret_bool HRR.out, HB.out.trans (HB3.out.mono hlt1)⟩
    · have HRE := Lib.hid (show hasO L M_ F l kp k = false by unfold hasO; rw [g]; simp)
      rw [← htp]
      rw [g] at HK
      clear hb1 h1 htr hfitr htp g
      go_wp2_with (go_at_call 80; refine (HK.out _).mono ?_; rintro e w2 ⟨rfl, hw2⟩; subst hw2)
      go_ret
      exact ⟨ret_bool HRE.out.symm, HB.out⟩
  · have HRE := Lib.hid (show hasO L M_ F l keep k = false by unfold hasO; rw [h1]; rfl)
    have HB := Lib.hid (show Below w.heap.size w w1 by first | exact hb1 | exact ((Below.refl w.heap.size w).alloc (Nat.le_refl _) _).trans (hb1.mono (by simp)))
    clear hb1 h1
    go_wp2
    go_ret
    exact ⟨ret_bool HRE.out.symm, HB.out⟩

end Go.Proofs.Ytakadkhgcjndmaa.W
