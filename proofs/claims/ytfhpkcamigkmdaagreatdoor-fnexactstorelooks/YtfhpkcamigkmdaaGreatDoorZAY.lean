/-
  What validTrie answers, by what is read of a filter; readTrie of a filter that has not the form; the calls that validTrie makes.
  Contract of the program's validTrie, from what readTrie answers.
-/
import Derived.Test.YtfhpkcamigkmdaaGreatDoorZAX
import Derived.Test.YtfhpkcamigkmdaaGreatDoorZAL
import Derived.Deep.RegionLaw
import Derived.Deep.CutRange
namespace Go.Proofs.YtfhpkcamigkmdaaGreatDoor.W
open Go.RowKit K

/-- a filter by its parts -/
theorem sv_parts {L M_ F : ByteArray} {l : List ByteArray} {kp : Nat} {K : List T.Str} : T.sieve kp K = svOf L M_ F l kp ↔ L = ba (T.sieve kp K).letters ∧ M_ = ba (T.sieve kp K).more ∧ F = ba (T.sieve kp K).first ∧ l = (T.sieve kp K).rests.map ba := by
  constructor
  · intro h
    rw [h]
    unfold svOf
    refine ⟨(ba_of L).symm, (ba_of M_).symm, (ba_of F).symm, ?_⟩
    rw [List.map_map]
    have : ∀ y ∈ l, (ba ∘ fun z : ByteArray => z.toList) y = id y := fun y _ => ba_of y
    rw [List.map_congr_left this, List.map_id]
  · rintro ⟨h1, h2, h3, h4⟩
    have e1 : L.toList = (T.sieve kp K).letters := by rw [h1]; exact ba_l _
    have e2 : M_.toList = (T.sieve kp K).more := by rw [h2]; exact ba_l _
    have e3 : F.toList = (T.sieve kp K).first := by rw [h3]; exact ba_l _
    have e4 : l.map (·.toList) = (T.sieve kp K).rests := by
      rw [h4, List.map_map]
      have : ∀ y ∈ (T.sieve kp K).rests, ((fun z : ByteArray => z.toList) ∘ ba) y = id y := fun y _ => ba_l y
      rw [List.map_congr_left this, List.map_id]
    unfold svOf
    rw [e1, e2, e3, e4]
    rfl
/-- the texts that are read of a filter -/
def ktx (L M_ F : ByteArray) (l : List ByteArray) (kp : Nat) : List ByteArray := (kpt (svOf L M_ F l kp)).map fun h => ba h.1
theorem ls_ktx (L M_ F : ByteArray) (l : List ByteArray) (kp : Nat) : ls (ktx L M_ F l kp) = (kpt (svOf L M_ F l kp)).map (·.1) := by
  unfold ls ktx
  rw [List.map_map]
  exact List.map_congr_left fun y _ => ba_l y.1
/-- the filter of what is read is the filter -/
def rdB (L M_ F : ByteArray) (l : List ByteArray) (kp : Nat) (ks : List ByteArray) : Bool :=
  eqs L (ba (T.sieve kp (ls ks)).letters) && (eqs M_ (ba (T.sieve kp (ls ks)).more) && (eqs F (ba (T.sieve kp (ls ks)).first) && sameL l ((T.sieve kp (ls ks)).rests.map ba)))
theorem rdB_iff {L M_ F : ByteArray} {l : List ByteArray} {kp : Nat} {ks : List ByteArray} : rdB L M_ F l kp ks = true ↔ T.sieve kp (ls ks) = svOf L M_ F l kp := by
  rw [sv_parts]
  unfold rdB
  simp only [Bool.and_eq_true, eqs_iff, sameL_iff]
theorem svB_rd {L M_ F : ByteArray} {l : List ByteArray} {kp : Nat} (hfo : formB L M_ F l.length kp = true) (hok : (svOf L M_ F l kp).rdOk) : svB L M_ F l kp = (keysB (ktx L M_ F l kp) && rdB L M_ F l kp (ktx L M_ F l kp)) := by
  have hkp : (svOf L M_ F l kp).keep ≤ 5 := by have := (form_parts hfo).2.2.2.2.2; show kp ≤ 5; omega
  rw [Bool.eq_iff_iff, Bool.and_eq_true, rdB_iff, ls_ktx]
  constructor
  · intro h
    obtain ⟨-, h1, h2, h3⟩ := (sv_iff hkp).mp (svB_is h)
    refine ⟨?_, h3⟩
    have := keysB_of h1 h2
    rw [List.map_map] at this
    exact this
  · rintro ⟨h1, h2⟩
    refine svB_of hfo ((sv_iff hkp).mpr ⟨hok, ?_, ?_, h2⟩)
    · have := keyL_of h1
      rw [ls_ktx] at this; exact this
    · have := (keys_iff.mp h1).1
      unfold ktx at this
      rw [List.length_map] at this ⊢
      exact this
theorem svB_no {L M_ F : ByteArray} {l : List ByteArray} {kp : Nat} (hok : ¬ (svOf L M_ F l kp).rdOk) : svB L M_ F l kp = false := by
  rcases Bool.eq_false_or_eq_true (svB L M_ F l kp) with h | h
  · exact absurd (kpt_is (svB_is h)).1 hok
  · exact h

/-- what validTrie answers -/
def ValidR (w : World) (L M_ F : ByteArray) (l : List ByteArray) (kp : Nat) (e : Ending) (w' : World) : Prop :=
  (svB L M_ F l kp = true ∧ ∃ A c, e = .returned (.tuple #[.slice A (svOf L M_ F l kp).top c, .bool true]) ∧ Trs w' (fun k => w'.heap.size ≤ k) A (svOf L M_ F l kp).top (svOf L M_ F l kp).rd ∧ (svOf L M_ F l kp).top ≤ c ∧ c ≤ maxLen ∧ Below w.heap.size w w') ∨
  (svB L M_ F l kp = false ∧ ∃ A n c, e = .returned (.tuple #[.slice A n c, .bool false]) ∧ Below w.heap.size w w')

set_option maxHeartbeats 2000000 in
theorem readNo (L M_ F : ByteArray) (A : Option Addr) (n c : Nat) (keep : Int) (w : World) (hM : M_.size ≤ maxLen) (hF : F.size ≤ maxLen) (hfo : formB L M_ F n keep = false) :
    Calls Tryz.prog 153 #[.agg #[.string L, .string M_, .string F, .slice A n c, .int .i64 keep]] w fun e w' => e = .returned (.tuple #[.slice none 0 0, .bool false]) ∧ Below w.heap.size w w' := by
  have HMA := Lib.hid (show ∀ W, Calls Tryz.prog 184 #[.agg #[.string L, .string M_, .string F, .slice A n c, .int .i64 keep]] W fun e w' => e = .returned (.bool false) ∧ Below W.heap.size W w' from fun W => by
    have h := matchI L M_ F A n c keep W hM hF
    rw [hfo] at h; exact h)
  go_enter Tryz.func153, Tryz.ntmps153
  go_wp2_with fail
  go_at_call 184
  refine (HMA.out _).mono ?_
  rintro e w1 ⟨rfl, hb1⟩
  have HBB := Lib.hid (((Below.refl w.heap.size w).alloc (Nat.le_refl _) (.cells #[.string L, .string M_, .string F, .slice A n c, .int .i64 keep] 92)).trans (hb1.mono (by simp)))
  clear hb1
  go_wp2
  go_ret2
  exact ⟨rfl, HBB.out⟩

theorem bel_same {a W : World} (h1 : W.heap = a.heap) (h2 : W.os = a.os) (h3 : W.tape = a.tape) (h4 : W.output = a.output) : Below a.heap.size a W := ⟨h2, h3, h4, by rw [h1]; exact Nat.le_refl _, fun k _ => by rw [h1]⟩
theorem bel_al {a W : World} {o : Obj} (h1 : W.heap = (a.alloc o).heap) (h2 : W.os = a.os) (h3 : W.tape = a.tape) (h4 : W.output = a.output) : Below a.heap.size a W := ⟨h2, h3, h4, by rw [h1]; simp, fun k hk => by rw [h1]; exact Below.heap_alloc _ _ _ hk⟩
theorem lt_of_heap {w : World} {b : Nat} {o : Obj} (h : w.heap[b]? = some o) : b < w.heap.size := by
  rcases Nat.lt_or_ge b w.heap.size with h1 | h1
  · exact h1
  · rw [Array.getElem?_eq_none h1] at h; cases h
/-- what the filter of the texts is, as the program holds it -/
def SameP (ks : List ByteArray) (kp : Nat) (base : Nat) (w4 : World) (L4 M4 F4 : ByteArray) (v4 : Value) (k4 : Int) (ok : Bool) : Prop :=
  (keysB ks = true ∧ ok = true ∧ k4 = kp ∧ L4 = ba (T.sieve kp (ls ks)).letters ∧ M4 = ba (T.sieve kp (ls ks)).more ∧ F4 = ba (T.sieve kp (ls ks)).first ∧ Own w4 base v4 ((T.sieve kp (ls ks)).rests.map ba)) ∨ (keysB ks = false ∧ ok = false)
def OfK (ks : List ByteArray) (kp : Nat) (W : World) (e : Ending) (w4 : World) : Prop :=
  ∃ L4 M4 F4 A4 n4 c4 k4 ok, e = .returned (.tuple #[.agg #[.string L4, .string M4, .string F4, .slice A4 n4 c4, .int .i64 k4], .bool ok]) ∧ SameP ks kp W.heap.size w4 L4 M4 F4 (.slice A4 n4 c4) k4 ok ∧ Below W.heap.size W w4
theorem ofK {ks : List ByteArray} {kp : Nat} {W : World} (hkp : kp ≤ 5) {n c : Nat} {A : Option Addr} (hr : Strs W W.heap.size A n ks) (hnc : n ≤ c) (hc : c ≤ maxLen) (hf : Fit ks) : Calls Tryz.prog 147 #[.slice A n c, .int .i64 kp] W (OfK ks kp W) := by
  refine (ofI W n c A ks kp hr hnc hc hf).mono ?_
  rintro e w' (⟨h1, h2, v, rfl, ho, hb⟩ | ⟨h1, rfl, hb⟩)
  · obtain ⟨A4, c4, hv, -, -, -⟩ := ho.parts
    subst hv
    rw [Int.toNat_natCast] at *
    exact ⟨_, _, _, _, _, _, _, _, rfl, .inl ⟨h1, rfl, rfl, rfl, rfl, rfl, ho⟩, hb⟩
  · have h5 : inB kp 0 5 = true := by unfold inB; exact decide_eq_true ⟨by omega, by omega⟩
    refine ⟨_, _, _, _, _, _, _, _, rfl, .inr ⟨?_, rfl⟩, hb⟩
    rcases h1 with h | h
    · exact h
    · rw [h5] at h; cases h
/-- the three calls, one after the other, whatever is new in between -/
theorem three {L M_ F : ByteArray} {l : List ByteArray} {kp : Nat} (hkp : kp ≤ 5) (hf : RdFit L M_ F l kp) {A : Option Addr} {c : Nat} {w1 : World} (ht : Trs w1 (fun k => w1.heap.size ≤ k) A (svOf L M_ F l kp).top (svOf L M_ F l kp).rd) : ∀ W, Below w1.heap.size w1 W → Calls Tryz.prog 155 #[.slice A (svOf L M_ F l kp).top c, .int .i64 0, .string ⟨#[]⟩] W fun e w2 => ∃ A2 n2 c2, e = .returned (.slice A2 n2 c2) ∧ Below W.heap.size W w2 ∧ Below w1.heap.size w1 w2 ∧ ∀ W2, Below w2.heap.size w2 W2 → Calls Tryz.prog 154 #[.slice A2 n2 c2] W2 fun e w3 => ∃ A3 n3 c3, e = .returned (.slice A3 n3 c3) ∧ Below W2.heap.size W2 w3 ∧ Below w2.heap.size w2 w3 ∧ ∀ W3, Below w3.heap.size w3 W3 → Calls Tryz.prog 147 #[.slice A3 n3 c3, .int .i64 kp] W3 fun e w4 => OfK (ktx L M_ F l kp) kp W3 e w4 ∧ Below w3.heap.size w3 w4 := by
  intro W hW
  have h0 := headsI _ hf.ahead hf.nodes A (svOf L M_ F l kp).top c (by have := hf.top; omega) (svOf L M_ F l kp).rd.length 0 [] W w1.heap.size (by omega) hf.pos (ht.below hW) hW.size (by have := hf.cnt; unfold kpt at this; omega) (by have := hf.top; have := hf.len; simp; omega)
  refine Calls.mono h0 ?_
  rintro e w2 ⟨v2, rfl, ho2, hb2⟩
  obtain ⟨A2, c2, hv2, hc2, hm2⟩ := ho2.parts_
  subst hv2
  refine ⟨_, _, _, rfl, hb2, hW.trans (hb2.mono hW.size), fun W2 hW2 => ?_⟩
  have hh := (OwnH.hds ho2).below hW2 (Nat.le_refl _)
  refine (textsI W2 _ _ c2 A2 _ hh hW2.size (by have := hf.cnt; unfold kpt at this; omega)).mono ?_
  rintro e w3 ⟨v3, rfl, ho3, hb3⟩
  obtain ⟨A3, c3, hv3, hc3, hm3, hst3⟩ := ho3.parts
  subst hv3
  refine ⟨_, _, _, rfl, hb3, hW2.trans (hb3.mono hW2.size), fun W3 hW3 => ?_⟩
  refine Calls.mono (ofK hkp ((hst3.below hW3 (Nat.le_refl _)).more hW3.size) hc3 hm3 ?_) (fun e w4 h => ⟨h, by obtain ⟨_, _, _, _, _, _, _, _, -, -, hb⟩ := h; exact hW3.trans (hb.mono hW3.size)⟩)
  intro x hx
  obtain ⟨y, hy, rfl⟩ := List.mem_map.mp hx
  have := hf.short y hy
  rw [ba_len]
  unfold maxLen
  omega
/-- what is there behind the third call -/
structure SameQ (w1 : World) (ks : List ByteArray) (kp : Nat) (b : Nat) (ok : Bool) (wx : World) : Prop where
  lt : w1.heap.size ≤ b
  below : Below w1.heap.size w1 wx
  box : ∃ L4 M4 F4 A4 n4 c4 k4, wx.heap[b]? = some (.cells #[.string L4, .string M4, .string F4, .slice A4 n4 c4, .int .i64 k4] 92 (0, 0)) ∧ SameP ks kp 0 wx L4 M4 F4 (.slice A4 n4 c4) k4 ok
theorem same_end {w1 w4 : World} {ks : List ByteArray} {kp base b : Nat} {L4 M4 F4 : ByteArray} {A4 : Option Addr} {n4 c4 : Nat} {k4 : Int} {ok : Bool} (hb : Below w1.heap.size w1 w4) (hbx : w4.heap[b]? = some zeroSv) (h1 : w1.heap.size ≤ b) (hs : SameP ks kp base w4 L4 M4 F4 (.slice A4 n4 c4) k4 ok) (hne : ∀ k, (Value.slice A4 n4 c4).ownBlock = some k → keysB ks = true → k ≠ b) :
    SameQ w1 ks kp b ok (((((w4.setCell ⟨b, 0, none⟩ (.string L4)).setCell ⟨b, 1, none⟩ (.string M4)).setCell ⟨b, 2, none⟩ (.string F4)).setCell ⟨b, 3, none⟩ (.slice A4 n4 c4)).setCell ⟨b, 4, none⟩ (.int .i64 k4)) := by
  have h5 := agree89 w4 b (.string L4) (.string M4) (.string F4) (.slice A4 n4 c4) (.int .i64 k4)
  refine ⟨h1, ?_, _, _, _, _, _, _, _, box_five hbx _ _ _ _ _, ?_⟩
  · refine ⟨by rw [os_set, os_set, os_set, os_set, os_set]; exact hb.os, by rw [tape_set, tape_set, tape_set, tape_set, tape_set]; exact hb.tape, by rw [out_set, out_set, out_set, out_set, out_set]; exact hb.output, Nat.le_trans hb.size h5.size, fun k hk => ?_⟩
    rw [h5.block k (by have := hb.size; omega) (fun e => by have e' : k = b := e; omega)]
    exact hb.block k hk
  · rcases hs with ⟨g1, g2, g3, g4, g5, g6, g7⟩ | h
    · exact .inl ⟨g1, g2, g3, g4, g5, g6, (g7.agree h5 (fun k hk e => hne k hk g1 e)).base (Nat.zero_le _)⟩
    · exact .inr h
end Go.Proofs.YtfhpkcamigkmdaaGreatDoor.W
namespace Go.Proofs.YtfhpkcamigkmdaaGreatDoor.W
open Go.RowKit K

theorem same_ne {w4 : World} {ks : List ByteArray} {kp base b : Nat} {L4 M4 F4 : ByteArray} {A4 : Option Addr} {n4 c4 : Nat} {k4 : Int} {ok : Bool} (hs : SameP ks kp base w4 L4 M4 F4 (.slice A4 n4 c4) k4 ok) (hb : b < base) : ∀ k, (Value.slice A4 n4 c4).ownBlock = some k → keysB ks = true → k ≠ b := by
  intro k hk hkb
  rcases hs with ⟨-, -, -, -, -, -, g⟩ | ⟨h, -⟩
  · have := (g.lt hk).1
    omega
  · rw [hkb] at h; cases h
theorem same_new2 {w1 w4 : World} {ks : List ByteArray} {kp base : Nat} {L4 M4 F4 : ByteArray} {A4 : Option Addr} {n4 c4 : Nat} {k4 : Int} {ok : Bool} (hb : Below w1.heap.size w1 w4) (h1 : w1.heap.size ≤ w4.heap.size) (hs : SameP ks kp base w4 L4 M4 F4 (.slice A4 n4 c4) k4 ok) :
    SameQ w1 ks kp w4.heap.size ok (w4.alloc (.cells #[.string L4, .string M4, .string F4, .slice A4 n4 c4, .int .i64 k4] 92)) := by
  refine ⟨h1, hb.alloc h1 _, L4, M4, F4, A4, n4, c4, k4, heap_alloc_new _ _, ?_⟩
  rcases hs with ⟨g1, g2, g3, g4, g5, g6, g7⟩ | h
  · exact .inl ⟨g1, g2, g3, g4, g5, g6, (g7.alloc _).base (Nat.zero_le _)⟩
  · exact .inr h
theorem Trs.up {w w' : World} {A : Option Addr} {n : Nat} {t : T.Tr} (h : Trs w (fun k => w.heap.size ≤ k) A n t) (hb : Below w.heap.size w w') : Trs w' (fun k => w'.heap.size ≤ k) A n t :=
  h.step (Y := fun k => w.heap.size ≤ k) ⟨hb.size, fun k _ hk => hb.block k (by omega)⟩ (fun _ _ h => h) (fun k _ h => Nat.le_trans hb.size h)

set_option maxHeartbeats 40000000 in
set_option maxRecDepth 8000 in
theorem validC (L M_ F : ByteArray) (A : Option Addr) (n c : Nat) (l : List ByteArray) (kp : Nat) (w : World) (hr : Strs w w.heap.size A n l) (hfo : formB L M_ F n kp = true) (hfit : ∀ i (h : i < l.length), l[i].size ≤ 1000000000000)
    (hrd : ∀ W : World, Strs W W.heap.size A n l → Calls Tryz.prog 153 #[.agg #[.string L, .string M_, .string F, .slice A n c, .int .i64 kp]] W fun e w' =>
      ((svOf L M_ F l kp).rdOk ∧ ∃ A c, e = .returned (.tuple #[.slice A (svOf L M_ F l kp).top c, .bool true]) ∧ Trs w' (fun k => w'.heap.size ≤ k) A (svOf L M_ F l kp).top (svOf L M_ F l kp).rd ∧ (svOf L M_ F l kp).top ≤ c ∧ c ≤ maxLen ∧ Below W.heap.size W w') ∨
      (¬ (svOf L M_ F l kp).rdOk ∧ e = .returned (.tuple #[.slice none 0 0, .bool false]) ∧ Below W.heap.size W w')) :
    Calls Tryz.prog 117 #[.agg #[.string L, .string M_, .string F, .slice A n c, .int .i64 kp]] w (ValidR w L M_ F l kp) := by
  have hln := hr.len
  subst hln
  obtain ⟨p1, p2, p3, p4, -, p6⟩ := form_parts hfo
  have hkp : kp ≤ 5 := by omega
  obtain ⟨W0, hW0⟩ : ∃ W0, W0 = w.alloc (.cells #[.string L, .string M_, .string F, .slice A l.length c, .int .i64 kp] 92) := ⟨_, rfl⟩
  have hbw : Below w.heap.size w W0 := by rw [hW0]; exact (Below.refl _ _).alloc (Nat.le_refl _) _
  have hs0 : W0.heap.size = w.heap.size + 1 := by rw [hW0]; exact World.size_alloc _ _
  have hbx0 : W0.heap[w.heap.size]? = some (.cells #[.string L, .string M_, .string F, .slice A l.length c, .int .i64 kp] 92 (0, 0)) := by rw [hW0]; exact heap_alloc_new _ _
  have hr0 := (hr.below hbw (Nat.le_refl _)).more (B' := W0.heap.size) (by omega)
  have HRD := Lib.hid (hrd W0 hr0)
  have HBW := Lib.hid hbw
  have HFO := Lib.hid hfo
  have HFT := Lib.hid hfit
  have HRS := Lib.hid hr
  have HBX0 := Lib.hid hbx0
  rw [hW0] at HRD
  have HW0 := Lib.hid hW0
  clear hrd hbw hfo hfit hr hr0 hbx0 hW0
  go_enter Tryz.func117, Tryz.ntmps117
  go_wp2_with fail
  go_at_call 153
  refine HRD.out.mono ?_
  rw [← HW0.out]
  rintro e w1 (⟨hok, A1, c1, rfl, htr, hc1, hm1, hb1⟩ | ⟨hok, rfl, hb1⟩)
  · have HSB := Lib.hid (svB_rd HFO.out hok)
    have HFT2 := Lib.hid (rd_fit HFO.out HFT.out hok)
    have HTH := Lib.hid (three (c := c1) hkp HFT2.out htr)
    have HTR := Lib.hid htr
    have hs1 := hb1.size
    have HB1 := Lib.hid (HBW.out.trans (hb1.mono (by omega)))
    have hbx1 : w1.heap[w.heap.size]? = some (.cells #[.string L, .string M_, .string F, .slice A l.length c, .int .i64 kp] 92 (0, 0)) := by rw [hb1.block _ (by omega)]; exact HBX0.out
    have a4 : w1.cell? ⟨w.heap.size, 4, none⟩ = some (.int .i64 kp) := by rw [cell_of_row _ _ _ _ _ _ hbx1]; rfl
    have a4A : ∀ o, (w1.alloc o).cell? ⟨w.heap.size, 4, none⟩ = some (.int .i64 kp) := fun o => by rw [World.cell?_of_block (w := w1) (a := ⟨w.heap.size, 4, none⟩) (Below.heap_alloc _ _ _ (by show w.heap.size < w1.heap.size; omega))]; exact a4
    have HBX1 := Lib.hid hbx1
    obtain ⟨tp, htp⟩ : ∃ t, t = (svOf L M_ F l kp).top := ⟨_, rfl⟩
    rw [← htp] at HTH hc1 ⊢
    have HTP := Lib.hid htp
    clear htr hb1 hbx1 htp hok
    go_upto_region 4 with fail
    go_cut [5, 6] from 14 to 23 (fun s5 s6 wx => ∃ b ok, s5 = .bool ok ∧ s6 = .pointer (some ⟨b, 0, none⟩) ∧ Hid (SameQ w1 (ktx L M_ F l kp) kp b ok wx))
    case first =>
      go_region_with (first
        | (go_at_call 155; refine Calls.mono (HTH.out _ (by first | exact bel_same (by rfl) (by rfl) (by rfl) (by rfl) | exact bel_al (o := zeroSv) (by rfl) (by rfl) (by rfl) (by rfl))) ?_; rintro e w2 ⟨A2, n2, c2, rfl, hb2, hcw2, hq2⟩; have HQ2 := Lib.hid hq2; (try have HX := Lib.hid (show w2.heap[w1.heap.size]? = some zeroSv from by rw [hb2.block _ (by simp)]; exact heap_alloc_new w1 _)); have a4_w2 : w2.cell? ⟨w.heap.size, 4, none⟩ = some (.int .i64 kp) := (hcw2.cell (p := ⟨w.heap.size, 4, none⟩) (by show w.heap.size < w1.heap.size; omega)).trans a4; have a4A_w2 : ∀ o, (w2.alloc o).cell? ⟨w.heap.size, 4, none⟩ = some (.int .i64 kp) := (fun o => by rw [World.cell?_of_block (w := w2) (a := ⟨w.heap.size, 4, none⟩) (Below.heap_alloc _ _ _ (by show w.heap.size < w2.heap.size; have := hcw2.size; omega))]; exact a4_w2); have hsz_w2 := hcw2.size; have HC_w2 := Lib.hid hcw2; clear hcw2; clear hq2 hb2)
        | (go_at_call 154; refine Calls.mono (HQ2.out _ (by first | exact bel_same (by rfl) (by rfl) (by rfl) (by rfl) | exact bel_al (o := zeroSv) (by rfl) (by rfl) (by rfl) (by rfl))) ?_; rintro e w3 ⟨A3, n3, c3, rfl, hb3, hcw3, hq3⟩; have HQ3 := Lib.hid hq3; (first | have HY := Lib.hid (show w3.heap[w2.heap.size]? = some zeroSv from by rw [hb3.block _ (by simp)]; exact heap_alloc_new w2 _) | have HY := Lib.hid (show w3.heap[w1.heap.size]? = some zeroSv from by rw [hcw3.block _ (by exact lt_of_heap HX.out)]; exact HX.out) | skip); have a4_w3 : w3.cell? ⟨w.heap.size, 4, none⟩ = some (.int .i64 kp) := (hcw3.cell (p := ⟨w.heap.size, 4, none⟩) (by show w.heap.size < w2.heap.size; omega)).trans a4_w2; have a4A_w3 : ∀ o, (w3.alloc o).cell? ⟨w.heap.size, 4, none⟩ = some (.int .i64 kp) := (fun o => by rw [World.cell?_of_block (w := w3) (a := ⟨w.heap.size, 4, none⟩) (Below.heap_alloc _ _ _ (by show w.heap.size < w3.heap.size; have := hcw3.size; omega))]; exact a4_w3); have hsz_w3 := hcw3.size; have HC_w3 := Lib.hid hcw3; clear hcw3; clear hq3 hb3)
        | (go_at_call 147; refine Calls.mono (HQ3.out _ (by first | exact bel_same (by rfl) (by rfl) (by rfl) (by rfl) | exact bel_al (o := zeroSv) (by rfl) (by rfl) (by rfl) (by rfl))) ?_; rintro e w4 ⟨⟨L4, M4, F4, A4, n4, c4, k4, ok, rfl, hsm, hb4⟩, hcw4⟩; have HSM := Lib.hid hsm; (first | (have hz : w4.heap[w3.heap.size]? = some zeroSv := (by rw [hb4.block _ (by simp)]; exact heap_alloc_new w3 _); have y0 : w4.cell? ⟨w3.heap.size, 0, none⟩ = some (.string ⟨#[]⟩) := (by rw [cell_of_row _ _ _ _ _ _ hz]; rfl); have z0 : w4.frozen? ⟨w3.heap.size, 0, none⟩ = false := (by rw [frozen_of_row _ _ _ _ _ hz]); have y1 : w4.cell? ⟨w3.heap.size, 1, none⟩ = some (.string ⟨#[]⟩) := (by rw [cell_of_row _ _ _ _ _ _ hz]; rfl); have z1 : w4.frozen? ⟨w3.heap.size, 1, none⟩ = false := (by rw [frozen_of_row _ _ _ _ _ hz]); have y2 : w4.cell? ⟨w3.heap.size, 2, none⟩ = some (.string ⟨#[]⟩) := (by rw [cell_of_row _ _ _ _ _ _ hz]; rfl); have z2 : w4.frozen? ⟨w3.heap.size, 2, none⟩ = false := (by rw [frozen_of_row _ _ _ _ _ hz]); have y3 : w4.cell? ⟨w3.heap.size, 3, none⟩ = some (.slice none 0 0) := (by rw [cell_of_row _ _ _ _ _ _ hz]; rfl); have z3 : w4.frozen? ⟨w3.heap.size, 3, none⟩ = false := (by rw [frozen_of_row _ _ _ _ _ hz]); have y4 : w4.cell? ⟨w3.heap.size, 4, none⟩ = some (.int .i64 0) := (by rw [cell_of_row _ _ _ _ _ _ hz]; rfl); have z4 : w4.frozen? ⟨w3.heap.size, 4, none⟩ = false := (by rw [frozen_of_row _ _ _ _ _ hz]); have HZ := Lib.hid hz; clear hz) | (have hz : w4.heap[w2.heap.size]? = some zeroSv := (by rw [hcw4.block _ (by exact lt_of_heap HY.out)]; exact HY.out); have y0 : w4.cell? ⟨w2.heap.size, 0, none⟩ = some (.string ⟨#[]⟩) := (by rw [cell_of_row _ _ _ _ _ _ hz]; rfl); have z0 : w4.frozen? ⟨w2.heap.size, 0, none⟩ = false := (by rw [frozen_of_row _ _ _ _ _ hz]); have y1 : w4.cell? ⟨w2.heap.size, 1, none⟩ = some (.string ⟨#[]⟩) := (by rw [cell_of_row _ _ _ _ _ _ hz]; rfl); have z1 : w4.frozen? ⟨w2.heap.size, 1, none⟩ = false := (by rw [frozen_of_row _ _ _ _ _ hz]); have y2 : w4.cell? ⟨w2.heap.size, 2, none⟩ = some (.string ⟨#[]⟩) := (by rw [cell_of_row _ _ _ _ _ _ hz]; rfl); have z2 : w4.frozen? ⟨w2.heap.size, 2, none⟩ = false := (by rw [frozen_of_row _ _ _ _ _ hz]); have y3 : w4.cell? ⟨w2.heap.size, 3, none⟩ = some (.slice none 0 0) := (by rw [cell_of_row _ _ _ _ _ _ hz]; rfl); have z3 : w4.frozen? ⟨w2.heap.size, 3, none⟩ = false := (by rw [frozen_of_row _ _ _ _ _ hz]); have y4 : w4.cell? ⟨w2.heap.size, 4, none⟩ = some (.int .i64 0) := (by rw [cell_of_row _ _ _ _ _ _ hz]; rfl); have z4 : w4.frozen? ⟨w2.heap.size, 4, none⟩ = false := (by rw [frozen_of_row _ _ _ _ _ hz]); have HZ := Lib.hid hz; clear hz) | (have hz : w4.heap[w1.heap.size]? = some zeroSv := (by rw [hcw4.block _ (by exact lt_of_heap HY.out)]; exact HY.out); have y0 : w4.cell? ⟨w1.heap.size, 0, none⟩ = some (.string ⟨#[]⟩) := (by rw [cell_of_row _ _ _ _ _ _ hz]; rfl); have z0 : w4.frozen? ⟨w1.heap.size, 0, none⟩ = false := (by rw [frozen_of_row _ _ _ _ _ hz]); have y1 : w4.cell? ⟨w1.heap.size, 1, none⟩ = some (.string ⟨#[]⟩) := (by rw [cell_of_row _ _ _ _ _ _ hz]; rfl); have z1 : w4.frozen? ⟨w1.heap.size, 1, none⟩ = false := (by rw [frozen_of_row _ _ _ _ _ hz]); have y2 : w4.cell? ⟨w1.heap.size, 2, none⟩ = some (.string ⟨#[]⟩) := (by rw [cell_of_row _ _ _ _ _ _ hz]; rfl); have z2 : w4.frozen? ⟨w1.heap.size, 2, none⟩ = false := (by rw [frozen_of_row _ _ _ _ _ hz]); have y3 : w4.cell? ⟨w1.heap.size, 3, none⟩ = some (.slice none 0 0) := (by rw [cell_of_row _ _ _ _ _ _ hz]; rfl); have z3 : w4.frozen? ⟨w1.heap.size, 3, none⟩ = false := (by rw [frozen_of_row _ _ _ _ _ hz]); have y4 : w4.cell? ⟨w1.heap.size, 4, none⟩ = some (.int .i64 0) := (by rw [cell_of_row _ _ _ _ _ _ hz]; rfl); have z4 : w4.frozen? ⟨w1.heap.size, 4, none⟩ = false := (by rw [frozen_of_row _ _ _ _ _ hz]); have HZ := Lib.hid hz; clear hz) | skip); have HB4 := Lib.hid hb4; have HC4 := Lib.hid (HC_w2.out.trans ((HC_w3.out.mono hsz_w2).trans (hcw4.mono (by omega)))); clear hsm hb4 hcw4))
      all_goals
        go_wp2_with fail
        go_meet
        refine ⟨_, _, rfl, rfl, Lib.hid ?_⟩
        first
          | with_reducible exact same_new2 HC4.out HC4.out.size HSM.out
          | with_reducible exact same_end HC4.out HZ.out (by omega) HSM.out (same_ne HSM.out (by exact lt_of_heap HY.out))
          | with_reducible exact same_end HC4.out HZ.out (by omega) HSM.out (same_ne HSM.out (by simp))
          | exact same_new HC4.out HC4.out.size HSM.out
    case rest =>
      obtain ⟨b, ok, rfl, rfl, hq⟩ := hcut
      obtain ⟨L4, M4, F4, A4, n4, c4, k4, hbx, hsm⟩ := hq.out.box
      have HQ := hq
      have hbl := hq.out.below
      have hbl2 := hbl.size
      have hlt := hq.out.lt
      have hbx1 : wc.heap[w.heap.size]? = some (.cells #[.string L, .string M_, .string F, .slice A l.length c, .int .i64 kp] 92 (0, 0)) := by rw [hbl.block _ (by omega)]; exact HBX1.out
      have c0 : wc.cell? ⟨w.heap.size, 0, none⟩ = some (.string L) := by rw [cell_of_row _ _ _ _ _ _ hbx1]; rfl
      have c1' : wc.cell? ⟨w.heap.size, 1, none⟩ = some (.string M_) := by rw [cell_of_row _ _ _ _ _ _ hbx1]; rfl
      have c2' : wc.cell? ⟨w.heap.size, 2, none⟩ = some (.string F) := by rw [cell_of_row _ _ _ _ _ _ hbx1]; rfl
      have c3' : wc.cell? ⟨w.heap.size, 3, none⟩ = some (.slice A l.length c) := by rw [cell_of_row _ _ _ _ _ _ hbx1]; rfl
      have c4' : wc.cell? ⟨w.heap.size, 4, none⟩ = some (.int .i64 kp) := by rw [cell_of_row _ _ _ _ _ _ hbx1]; rfl
      have d0 : wc.cell? ⟨b, 0, none⟩ = some (.string L4) := by rw [cell_of_row _ _ _ _ _ _ hbx]; rfl
      have d1 : wc.cell? ⟨b, 1, none⟩ = some (.string M4) := by rw [cell_of_row _ _ _ _ _ _ hbx]; rfl
      have d2 : wc.cell? ⟨b, 2, none⟩ = some (.string F4) := by rw [cell_of_row _ _ _ _ _ _ hbx]; rfl
      have d3 : wc.cell? ⟨b, 3, none⟩ = some (.slice A4 n4 c4) := by rw [cell_of_row _ _ _ _ _ _ hbx]; rfl
      have d4 : wc.cell? ⟨b, 4, none⟩ = some (.int .i64 k4) := by rw [cell_of_row _ _ _ _ _ _ hbx]; rfl
      have HBB := Lib.hid (HB1.out.trans (hbl.mono (by have := HB1.out.size; omega)))
      have HBL := Lib.hid hbl
      clear hq hbx hbx1 hbl a4 a4A
      rcases hsm with ⟨g1, rfl, rfl, rfl, rfl, rfl, g7⟩ | ⟨g1, rfl⟩
      · obtain ⟨R, hR⟩ : ∃ R, R = rdB L M_ F l kp (ktx L M_ F l kp) := ⟨_, rfl⟩
        have HS2 := Lib.hid (show svB L M_ F l kp = R by rw [HSB.out, g1, Bool.true_and, hR])
        obtain ⟨A5, c5, hv, hc5, hm5, hst⟩ := g7.parts
        injection hv with e1 e2 e3
        subst e1 e2 e3
        have HSA := Lib.hid (show ∀ W : World, Below wc.heap.size wc W → Calls Tryz.prog 116 #[.agg #[.string L, .string M_, .string F, .slice A l.length c, .int .i64 kp], .agg #[.string (ba (T.sieve kp (ls (ktx L M_ F l kp))).letters), .string (ba (T.sieve kp (ls (ktx L M_ F l kp))).more), .string (ba (T.sieve kp (ls (ktx L M_ F l kp))).first), .slice A4 ((T.sieve kp (ls (ktx L M_ F l kp))).rests.map ba).length c4, .int .i64 kp]] W fun e w' => e = .returned (.bool R) ∧ Below W.heap.size W w' from fun W hW => by
          have h := sameI L M_ F (ba (T.sieve kp (ls (ktx L M_ F l kp))).letters) (ba (T.sieve kp (ls (ktx L M_ F l kp))).more) (ba (T.sieve kp (ls (ktx L M_ F l kp))).first) A A4 l.length c _ c4 l _ kp W ((HRS.out.below (HBB.out.trans (hW.mono (by have := HBB.out.size; omega))) (Nat.le_refl _)).more (by have := HBB.out.size; have := hW.size; omega)) ((hst.below hW (Nat.le_refl _)).more hW.size) (by unfold maxLen; omega) (by omega)
          rw [hR]
          exact h)
        obtain ⟨L4, hL4⟩ : ∃ x, x = ba (T.sieve kp (ls (ktx L M_ F l kp))).letters := ⟨_, rfl⟩
        obtain ⟨M4, hM4⟩ : ∃ x, x = ba (T.sieve kp (ls (ktx L M_ F l kp))).more := ⟨_, rfl⟩
        obtain ⟨F4, hF4⟩ : ∃ x, x = ba (T.sieve kp (ls (ktx L M_ F l kp))).first := ⟨_, rfl⟩
        obtain ⟨n4, hn4⟩ : ∃ x, x = ((T.sieve kp (ls (ktx L M_ F l kp))).rests.map ba).length := ⟨_, rfl⟩
        rw [← hL4, ← hM4, ← hF4, ← hn4] at HSA
        rw [← hL4] at d0
        rw [← hM4] at d1
        rw [← hF4] at d2
        rw [← hn4] at d3
        clear hst g7 g1 hL4 hM4 hF4 hn4 hR hc5
        cases R with
        | true =>
          go_wp2_with fail
          go_at_call 116
          refine Calls.mono (HSA.out _ (by exact bel_same (by rfl) (by rfl) (by rfl) (by rfl))) ?_
          rintro e w5 ⟨rfl, hb5⟩
          have HB5 := Lib.hid hb5
          clear hb5
          go_wp2
          go_ret2
          have hb6 : Below wc.heap.size wc w5 := HB5.out
          have hb7 := HBL.out.trans (hb6.mono HBL.out.size)
          rw [HTP.out]
          exact .inl ⟨HS2.out, A1, c1, rfl, Trs.up HTR.out hb7, by rw [← HTP.out]; exact hc1, hm1, HB1.out.trans (hb7.mono HB1.out.size)⟩
        | false =>
          go_wp2_with fail
          go_at_call 116
          refine Calls.mono (HSA.out _ (by exact bel_same (by rfl) (by rfl) (by rfl) (by rfl))) ?_
          rintro e w5 ⟨rfl, hb5⟩
          have HB5 := Lib.hid hb5
          clear hb5
          go_wp2
          go_ret2
          have hb6 : Below wc.heap.size wc w5 := HB5.out
          exact .inr ⟨HS2.out, _, _, _, rfl, HBB.out.trans (hb6.mono HBB.out.size)⟩
      · have HS2 := Lib.hid (show svB L M_ F l kp = false by rw [HSB.out, g1]; rfl)
        clear g1
        go_wp2
        go_ret2
        exact .inr ⟨HS2.out, _, _, _, rfl, HBB.out⟩
  · have HSB := Lib.hid (svB_no hok)
    have HBB := Lib.hid (HBW.out.trans (hb1.mono (by omega)))
    clear hok hb1
    go_wp2
    go_ret2
    exact .inr ⟨HSB.out, _, _, _, rfl, HBB.out⟩

end Go.Proofs.YtfhpkcamigkmdaaGreatDoor.W
