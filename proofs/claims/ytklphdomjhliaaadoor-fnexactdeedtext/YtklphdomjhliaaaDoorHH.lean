/-
  Contracts of the program's wellFormed and DeedRead.
-/
import Derived.Test.YtklphdomjhliaaaDoorHG
import Derived.WalkLawsBesides
namespace Go.Proofs.YtklphdomjhliaaaDoor.W
open Go.RowKit K R B

theorem assert_yes (w : World) : (Instr.typeAssert (.iface 63 (.agg #[])) 20 63 true).run Tryd.prog w = .ok (.tuple #[.agg #[], .bool true]) w := by kernel_rfl
theorem assert_no (w : World) : (Instr.typeAssert .nilIface 20 63 true).run Tryd.prog w = .ok (.tuple #[.agg #[], .bool false]) w := by kernel_rfl
theorem tmps_lit (v : Value) : ((Array.replicate 16 undef).setIfInBounds 3 v).setIfInBounds 0 v = #[v, undef, undef, v, undef, undef, undef, undef, undef, undef, undef, undef, undef, undef, undef, undef] := rfl
set_option maxHeartbeats 2000000 in
set_option maxRecDepth 100000 in
theorem catchBad (w : World) :
    CallsD Tryd.prog 37 #[] (.panicking [{ v := .iface 63 (.agg #[]), recovered := false }]) w fun e u' w' => e = .returned (.tuple #[]) ∧ u' = .panicking [{ v := .iface 63 (.agg #[]), recovered := true }] ∧ Below w.heap.size w w' := by
  have ha := assert_yes
  refine callsD_of_wpS Tryd.func37 rfl fun c₀ cs hu => ?_
  apply wpS_seq
  apply wpS_region
  simp [wpOpsS, go_sem, recoverD, hu, Tryd.ntmps37, Exit.thenS]
  rw [tmps_lit]
  refine wpS_of_wp ?_
  go_wp2
  exact ⟨rfl, _, rfl, .tuple #[], by simp [results, Tryd.results37], rfl, rfl, (Below.refl _ _).alloc (Nat.le_refl _) _⟩
set_option maxHeartbeats 2000000 in
set_option maxRecDepth 100000 in
theorem catchIdle (w : World) :
    CallsD Tryd.prog 37 #[] .returning w fun e u' w' => e = .returned (.tuple #[]) ∧ u' = .returning ∧ Below w.heap.size w w' := by
  have ha := assert_no
  refine callsD_of_wpS Tryd.func37 rfl fun c₀ cs hu => ?_
  apply wpS_seq
  apply wpS_region
  simp [wpOpsS, go_sem, recoverD, hu, Tryd.ntmps37, Exit.thenS]
  rw [tmps_lit]
  refine wpS_of_wp ?_
  go_wp2
  cases c₀
  refine ⟨rfl, .returning, ?_, .tuple #[], by simp [results, Tryd.results37], rfl, rfl, (Below.refl _ _).alloc (Nat.le_refl _) _⟩
  simp_all

/-- what the reader's closure finds and leaves: the text in block p, the deed in block q -/
structure Clo (W : World) (p q : Nat) (s : ByteArray) (d : De) : Prop where
  prow : W.heap[p]? = some (.cells #[.string s] 9 (0, 0))
  qrow : W.heap[q]? = some (.cells #[.int .i64 d.kind, .string d.key, .int .i64 d.num] 24 (0, 0))
/-- the closure of DeedRead -/
theorem cloI (s : ByteArray) (w : World) (p q B : Nat) (d0 : De) (hs : s.size ≤ 100) (hT : Tab w) (hE : ErrB B w) (hB : B ≤ w.heap.size) (hC : Clo w p q s d0) :
    Calls Tryd.prog 29 #[.pointer (some ⟨p, 0, none⟩), .pointer (some ⟨q, 0, none⟩)] w fun e w' =>
      (∃ d, readD s.data.toList = some d ∧ e = .returned (.tuple #[]) ∧ w'.heap[q]? = some (.cells #[.int .i64 d.kind, .string d.key, .int .i64 d.num] 24 (0, 0)) ∧ w.grownBy w' (some q)) ∨ readD s.data.toList = none ∧ e = badV ∧ Below w.heap.size w w' := by
  have hp0 : w.cell? ⟨p, 0, none⟩ = some (.string s) := by rw [cell_of_row _ _ _ _ _ _ hC.prow]; rfl
  have HR := Lib.hid (readI s w B hs hT hE hB)
  have HQ := Lib.hid hC.qrow
  clear hC hT hE
  unfold ReadV at HR
  rcases Option.eq_none_or_eq_some (readD s.data.toList) with hr | ⟨d, hr⟩
  · have HRD := Lib.hid hr
    have HR2 := Lib.hid (show Calls Tryd.prog 30 #[.string s] w fun e w' => e = badV ∧ Below w.heap.size w w' from HR.out.mono fun e w' h => by
      rcases h.1 with ⟨d, h1, _⟩ | ⟨_, h1⟩
      · rw [hr] at h1; cases h1
      · exact ⟨h1, h.2⟩)
    clear HR hr
    unfold badV at *
    go_enter Tryd.func29, Tryd.ntmps29
    go_wp2_with (go_at_call 30; refine Calls.mono HR2.out ?_; rintro e w1 ⟨rfl, hb⟩)
    exact ⟨rfl, .inr ⟨HRD.out, rfl, hb⟩⟩
  · have HRD := Lib.hid hr
    have HR2 := Lib.hid (show Calls Tryd.prog 30 #[.string s] w fun e w' => e = .returned (.agg #[.int .i64 d.kind, .string d.key, .int .i64 d.num]) ∧ Below w.heap.size w w' from HR.out.mono fun e w' h => by
      rcases h.1 with ⟨d', h1, h2⟩ | ⟨h1, _⟩
      · rw [hr] at h1; injection h1 with e; subst e; exact ⟨h2, h.2⟩
      · rw [hr] at h1; cases h1)
    clear HR hr
    have hlt := (Array.getElem?_eq_some_iff.1 HQ.out).1
    go_enter Tryd.func29, Tryd.ntmps29
    go_wp2_with (go_at_call 30; refine Calls.mono HR2.out ?_; rintro e w1 ⟨rfl, hb⟩; have HQ1 := Lib.hid ((hb.block q hlt).trans HQ.out); obtain ⟨b0, b1, b2⟩ := cells_three HQ1.out; have f0 := fun j => frozen_of_row w1 q j _ _ HQ1.out)
    go_end0
    refine .inl ⟨d, HRD.out, rfl, box_three HQ1.out _ _ _, ?_⟩
    exact grown_putW (grown_putW (grown_putW (grownBelowW (grown_reflW _ _) hb) _ _) _ _) _ _

set_option maxHeartbeats 2000000 in
set_option maxRecDepth 100000 in
/-- whether the reader's text is one -/
theorem wellI (s : ByteArray) (w : World) (p q B : Nat) (d0 : De) (hs : s.size ≤ 100) (hT : Tab w) (hE : ErrB B w) (hB : B ≤ w.heap.size) (hC : Clo w p q s d0) :
    Calls Tryd.prog 28 #[.func (Fn.func 29) #[] #[.pointer (some ⟨p, 0, none⟩), .pointer (some ⟨q, 0, none⟩)]] w fun e w' =>
      (∃ d, readD s.data.toList = some d ∧ e = .returned (.bool true) ∧ w'.heap[q]? = some (.cells #[.int .i64 d.kind, .string d.key, .int .i64 d.num] 24 (0, 0)) ∧ w.grownBy w' (some q)) ∨ readD s.data.toList = none ∧ e = .returned (.bool false) ∧ Below w.heap.size w w' := by
  have HC := Lib.hid (cloI s w p q B d0 hs hT hE hB hC)
  have hql := (Array.getElem?_eq_some_iff.1 hC.qrow).1
  clear hT hE hC
  rcases Option.eq_none_or_eq_some (readD s.data.toList) with hr | ⟨d, hr⟩
  · have HRD := Lib.hid hr
    have HC2 := Lib.hid (show Calls Tryd.prog 29 #[.pointer (some ⟨p, 0, none⟩), .pointer (some ⟨q, 0, none⟩)] w fun e w' => e = badV ∧ Below w.heap.size w w' from HC.out.mono fun e w' h => by
      rcases h with ⟨d, h1, _⟩ | ⟨_, h2, h3⟩
      · rw [hr] at h1; cases h1
      · exact ⟨h2, h3⟩)
    clear HC hr
    unfold badV at HC2
    go_enter_defers Tryd.func28, Tryd.ntmps28
    go_wp2_with (go_at_call 29; refine Calls.mono HC2.out ?_; rintro e w1 ⟨rfl, hb⟩)
    refine leaves_cons (f := 37) (args := #[]) (by simp) (by simp [go_sem]) ?_
    refine (catchBad _).mono ?_
    rintro e u' w'' ⟨rfl, rfl, hb2⟩
    simp [Leaves, settle, results, Tryd.results28, go_sem]
    exact ⟨HRD.out, hb.trans (hb2.mono hb.size)⟩
  · have HRD := Lib.hid hr
    have HC2 := Lib.hid (show Calls Tryd.prog 29 #[.pointer (some ⟨p, 0, none⟩), .pointer (some ⟨q, 0, none⟩)] w fun e w' => e = .returned (.tuple #[]) ∧ w'.heap[q]? = some (.cells #[.int .i64 d.kind, .string d.key, .int .i64 d.num] 24 (0, 0)) ∧ w.grownBy w' (some q) from HC.out.mono fun e w' h => by
      rcases h with ⟨d', h1, h2, h3, h4⟩ | ⟨h1, _⟩
      · rw [hr] at h1; injection h1 with e; subst e; exact ⟨h2, h3, h4⟩
      · rw [hr] at h1; cases h1)
    clear HC hr
    go_enter_defers Tryd.func28, Tryd.ntmps28
    go_wp2_with (go_at_call 29; refine Calls.mono HC2.out ?_; rintro e w1 ⟨rfl, hq, hg⟩)
    refine leaves_cons (f := 37) (args := #[]) (by simp) (by simp [go_sem]) ?_
    refine (catchIdle _).mono ?_
    rintro e u' w'' ⟨rfl, rfl, hb2⟩
    simp [Leaves, settle, results, Tryd.results28, go_sem]
    exact ⟨d, HRD.out, (hb2.block q (Array.getElem?_eq_some_iff.1 hq).1).trans hq, grownBelowW hg hb2⟩

set_option maxHeartbeats 4000000 in
set_option maxRecDepth 100000 in
/-- the program's DeedRead -/
theorem deedReadI (s : ByteArray) (w : World) (B : Nat) (hT : Tab w) (hE : ErrB B w) (hB : B ≤ w.heap.size) :
    Calls Tryd.prog 11 #[.string s] w fun e w' => ((∃ d, readD s.data.toList = some d ∧ e = .returned (.tuple #[.agg #[.int .i64 d.kind, .string d.key, .int .i64 d.num], .bool true])) ∨ readD s.data.toList = none ∧ e = .returned (.tuple #[.agg #[.int .i64 0, .string ⟨#[]⟩, .int .i64 0], .bool false])) ∧ Below w.heap.size w w' := by
  have hmf : ∀ (fn : Fn) (first cap : Array Value) (w : World), (Instr.makeFunc fn first cap).run Tryd.prog w = .ok (.func fn first cap) w := fun _ _ _ _ => rfl
  obtain ⟨W0, hW0⟩ : ∃ W, W = ((w.alloc (.cells #[.string s] 9)).alloc (.cells #[.int .i64 0, .string ⟨#[]⟩, .int .i64 0] 24)).alloc (.cells #[.int .i64 0, .string ⟨#[]⟩, .int .i64 0] 24) := ⟨_, rfl⟩
  have hb0 : Below w.heap.size w W0 := by rw [hW0]; exact (((Below.refl _ _).alloc (Nat.le_refl _) _).alloc (by simp) _).alloc (by simp; omega) _
  have hsz : W0.heap.size = w.heap.size + 3 := by rw [hW0]; simp
  have r0 : W0.heap[w.heap.size]? = some (.cells #[.string s] 9 (0, 0)) := by
    rw [hW0]; exact (heap_alloc_old _ _ (by simp; omega)).trans ((heap_alloc_old _ _ (by simp)).trans (heap_alloc_new _ _))
  have r1 : W0.heap[w.heap.size + 1]? = some (.cells #[.int .i64 0, .string ⟨#[]⟩, .int .i64 0] 24 (0, 0)) := by
    rw [hW0]; exact (heap_alloc_old _ _ (by simp)).trans (by have := heap_alloc_new (w.alloc (.cells #[.string s] 9)) (.cells #[.int .i64 0, .string ⟨#[]⟩, .int .i64 0] 24); simpa using this)
  have r2 : W0.heap[w.heap.size + 2]? = some (.cells #[.int .i64 0, .string ⟨#[]⟩, .int .i64 0] 24 (0, 0)) := by
    rw [hW0]; have := heap_alloc_new ((w.alloc (.cells #[.string s] 9)).alloc (.cells #[.int .i64 0, .string ⟨#[]⟩, .int .i64 0] 24)) (.cells #[.int .i64 0, .string ⟨#[]⟩, .int .i64 0] 24); simpa using this
  have hc0 : W0.cell? ⟨w.heap.size, 0, none⟩ = some (.string s) := by rw [cell_of_row _ _ _ _ _ _ r0]; rfl
  have HB0 := Lib.hid hb0
  have HR1 := Lib.hid r1
  have HW0 := Lib.hid hW0
  by_cases h40 : s.size ≤ 40
  case neg =>
    have HN := Lib.hid (readD_long (t := s.data.toList) (by rw [len_l]; omega))
    obtain ⟨b0, b1, b2⟩ := cells_three r1
    have f0 := fun j => frozen_of_row W0 (w.heap.size + 1) j _ _ r1
    have z1 : (40 : Int) < (s.size : Int) := by omega
    clear hW0 hT hE hb0 r0 r1 r2 h40
    go_enter Tryd.func11, Tryd.ntmps11
    go_upto_region 2 with fail
    rw [← HW0.out]
    go_wp2
    refine bodyPost_ret (v := .tuple #[.agg #[.int .i64 0, .string ⟨#[]⟩, .int .i64 0], .bool false]) ?_ rfl ⟨.inr ⟨HN.out, rfl⟩, ?_⟩
    · exact ret_pair3 rfl _ _ (w.heap.size + 1) _ _ rfl rfl (load_deed (box_three HR1.out _ _ _))
    · exact ((HB0.out.setCell (by simp) _).setCell (by simp) _).setCell (by simp) _
  case pos =>
    have HWF := Lib.hid (wellI s W0 w.heap.size (w.heap.size + 2) B ⟨0, ⟨#[]⟩, 0⟩ (by omega) (hT.on hb0) (hE.on (hb0.mono hB)) (by omega) ⟨r0, r2⟩)
    have z1 : ¬ (40 : Int) < (s.size : Int) := by omega
    clear hW0 hT hE hb0 r0 r1 r2 h40
    rcases Option.eq_none_or_eq_some (readD s.data.toList) with hr | ⟨d, hr⟩
    · have HRD := Lib.hid hr
      have HC2 := Lib.hid (HWF.out.mono (R' := fun e w' => e = .returned (.bool false) ∧ Below W0.heap.size W0 w') fun e w' h => by
        rcases h with ⟨d, h1, _⟩ | ⟨_, h2, h3⟩
        · rw [hr] at h1; cases h1
        · exact ⟨h2, h3⟩)
      clear HWF hr
      go_enter Tryd.func11, Tryd.ntmps11
      go_upto_region 2 with fail
      rw [← HW0.out]
      go_wp2_with (go_at_call 28; refine Calls.mono HC2.out ?_; rintro e w1 ⟨rfl, hb⟩; have HQ1 := Lib.hid ((hb.block (w.heap.size + 1) (by omega)).trans HR1.out); obtain ⟨b0, b1, b2⟩ := cells_three HQ1.out; have f0 := fun j => frozen_of_row w1 (w.heap.size + 1) j _ _ HQ1.out)
      refine bodyPost_ret (v := .tuple #[.agg #[.int .i64 0, .string ⟨#[]⟩, .int .i64 0], .bool false]) ?_ rfl ⟨.inr ⟨HRD.out, rfl⟩, ?_⟩
      · exact ret_pair3 rfl _ _ (w.heap.size + 1) _ _ rfl rfl (load_deed (box_three HQ1.out _ _ _))
      · exact (((HB0.out.trans (hb.mono (by omega))).setCell (by simp) _).setCell (by simp) _).setCell (by simp) _
    · have HRD := Lib.hid hr
      have HC2 := Lib.hid (HWF.out.mono (R' := fun e w' => e = .returned (.bool true) ∧ w'.heap[w.heap.size + 2]? = some (.cells #[.int .i64 d.kind, .string d.key, .int .i64 d.num] 24 (0, 0)) ∧ W0.grownBy w' (some (w.heap.size + 2))) fun e w' h => by
        rcases h with ⟨d', h1, h2, h3, h4⟩ | ⟨h1, _⟩
        · rw [hr] at h1; injection h1 with e; subst e; exact ⟨h2, h3, h4⟩
        · rw [hr] at h1; cases h1)
      clear HWF hr
      go_enter Tryd.func11, Tryd.ntmps11
      go_upto_region 2 with fail
      rw [← HW0.out]
      go_wp2_with (go_at_call 28; refine Calls.mono HC2.out ?_; rintro e w1 ⟨rfl, hq, hg⟩; have HQ1 := Lib.hid ((hg.block (w.heap.size + 1) (by omega) (by simp)).trans HR1.out); obtain ⟨b0, b1, b2⟩ := cells_three HQ1.out; have f0 := fun j => frozen_of_row w1 (w.heap.size + 1) j _ _ HQ1.out; obtain ⟨c0, c1, c2⟩ := cells_three hq; have HG := Lib.hid hg)
      refine bodyPost_ret (v := .tuple #[.agg #[.int .i64 d.kind, .string d.key, .int .i64 d.num], .bool true]) ?_ rfl ⟨.inl ⟨d, HRD.out, rfl⟩, ?_⟩
      · exact ret_pair3 rfl _ _ (w.heap.size + 1) _ _ rfl rfl (load_deed (box_three HQ1.out _ _ _))
      · exact (((HB0.out.trans (grown_bW HG.out (by omega) (by omega))).setCell (by simp) _).setCell (by simp) _).setCell (by simp) _
end Go.Proofs.YtklphdomjhliaaaDoor.W
