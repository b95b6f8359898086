/-
  The law FnRunOk (P28), as a walk over the contracts.
-/
import Derived.Test.YtfpgjkanmanajaaGK
namespace Go.Proofs.Ytfpgjkanmanajaa.W
open Go.RowKit K R

theorem few_drop {W : World} {A : Option Addr} {c k : Nat} {l : List En} (h : Few W A c l) (hk : k ≤ l.length) : Few W (if c = k then A else A.map (·.add (k * 4))) (c - k) (l.drop k) := by
  have hl := h.len
  have hm := h.most
  have hc := h.cap
  refine ⟨by rw [List.length_drop]; omega, fun e he => h.short e (List.mem_of_mem_drop he), ?_, by rw [List.length_drop]; omega, by omega⟩
  rw [List.length_drop]
  exact h.ents.drop hc hk
theorem few_take {W : World} {A : Option Addr} {c k : Nat} {l : List En} (h : Few W A c l) (hk : k ≤ l.length) : Few W A c (l.take k) := by
  have hl := h.len
  have hc := h.cap
  refine ⟨by rw [List.length_take]; omega, fun e he => h.short e (List.mem_of_mem_take he), ?_, by rw [List.length_take]; omega, h.most⟩
  refine ⟨rfl, fun i hi => ?_⟩
  rw [List.length_take] at hi
  rw [List.getElem_take]
  exact h.ents.cell i (by omega)
/-- P28 -/
theorem cut_join {l : List En} (h : runB l = true) (k : Nat) : joinB (l.drop k) (l.take k) = true ∧ joinF (l.drop k) (l.take k) = l ∧ runB (l.take k) = true ∧ runB (l.drop k) = true := by
  obtain ⟨h1, h2, h3, h4⟩ := run_cut h k
  have hj : joinB (l.drop k) (l.take k) = true := joinB_iff.mpr ⟨h2, h1, h4⟩
  exact ⟨hj, by rw [joinF_yes hj, h3], h1, h2⟩
theorem cut_num (n m : Nat) : ∃ k : Nat, (n : Int).tmod ((m : Int) + 1) = (k : Int) ∧ k ≤ m := by
  refine ⟨n % (m + 1), ?_, by have h := Nat.mod_lt n (Nat.succ_pos m); rw [Nat.succ_eq_add_one] at h; omega⟩
  rw [Int.tmod_eq_emod_of_nonneg (by omega)]
  rfl
theorem below_drew (w : World) : Below w.heap.size w w.drew := bel2 (Below.refl _ _) (by rfl) (by rfl) (by rfl) (by rfl)

set_option maxHeartbeats 8000000 in
set_option maxRecDepth 100000 in
theorem lawRunOk (w : World) (A : Option Addr) (n c : Nat) (hb0 : Bytes w w.heap.size A n) (hnc : n ≤ c) (hc : c ≤ maxLen) (A9 : Option Addr) (n9 c9 : Nat) :
    Calls Try.prog 3 #[.slice A n c, .slice A9 n9 c9] w fun e w' => e = .returned (.bool true) ∧ Below w.heap.size w w' := by
  by_cases hbig : (1048576 : Int) < (n : Int)
  · clear hb0
    go_enter Try.func3, Try.ntmps3
    go_wp2
    go_ret
    exact ⟨rfl, Below.refl _ _⟩
  by_cases hbig9 : (1048576 : Int) < (n9 : Int)
  · clear hb0
    go_enter Try.func3, Try.ntmps3
    go_wp2
    go_ret
    exact ⟨rfl, Below.refl _ _⟩
  go_enter Try.func3, Try.ntmps3
  go_wp2_with fail
  go_at_call 23
  refine Calls.mono (drawRunOk w A n c hb0 hnc hc) ?_
  rintro e w1 ⟨A1, c1, l, rfl, hf, hb⟩
  have HF := Lib.hid hf
  have HB := Lib.hid hb
  have hl45 := hf.len
  have hcap := hf.cap
  have hcm := hf.most
  clear hb0 hf hb
  rcases Bool.eq_false_or_eq_true (runB l) with hrun | hrun
  · go_wp2_with fail
    go_at_call 24
    refine Calls.mono (runI_is HF.out hrun) ?_
    rintro e w2 ⟨rfl, b_⟩
    replace HF := Lib.hid (HF.out.below b_)
    replace HB := Lib.hid (HB.out.trans (b_.mono HB.out.size))
    clear b_
    go_wp2_with fail
    go_at_call 25
    refine Calls.mono (runS_is HF.out hrun) ?_
    rintro e w3 ⟨rfl, b_⟩
    replace HF := Lib.hid (HF.out.below b_)
    replace HB := Lib.hid (HB.out.trans (b_.mono HB.out.size))
    clear b_
    obtain ⟨k, hk, hkl⟩ := cut_num n9 l.length
    obtain ⟨j1, j2, j3, j4⟩ := cut_join hrun k
    have h1 : (l.take k).length = k := by rw [List.length_take]; omega
    have h2 : (l.drop k).length = l.length - k := List.length_drop
    have HJ := Lib.hid (show ∀ W, Few W A1 c1 l → Calls Try.prog 26 #[.slice (if c1 = k then A1 else A1.map (·.add (k * 4))) (l.length - k) (c1 - k), .slice A1 k c1] W (JoinedF W l true) from fun W h => by have h3 := joinI_is (few_drop h hkl) (few_take h hkl) j2 j1; rw [h1, h2] at h3; exact h3)
    have HT := Lib.hid (show ∀ W, Few W A1 c1 l → Calls Try.prog 24 #[.slice A1 k c1] W fun e w' => e = .returned (.bool true) ∧ Below W.heap.size W w' from fun W h => by have h3 := runI_is (few_take h hkl) j3; rw [h1] at h3; exact h3)
    have HD := Lib.hid (show ∀ W, Few W A1 c1 l → Calls Try.prog 24 #[.slice (if c1 = k then A1 else A1.map (·.add (k * 4))) (l.length - k) (c1 - k)] W fun e w' => e = .returned (.bool true) ∧ Below W.heap.size W w' from fun W h => by have h3 := runI_is (few_drop h hkl) j4; rw [h2] at h3; exact h3)
    clear j1 j2 j3 j4 h1 h2 hrun
    have e1 : IntKind.i64.wrap ((l.length : Int) + 1) = (l.length : Int) + 1 := i64_z _ (by omega) (by omega)
    have e2 : IntKind.i64.wrap ((n9 : Int).tmod ((l.length : Int) + 1)) = (k : Int) := by rw [hk]; exact i64_z _ (by omega) (by omega)
    have z0 : (0 : Int) ≤ (k : Int) := by omega
    have z1 : (k : Int) ≤ (l.length : Int) := by omega
    have z2 : (k : Int) ≤ (c1 : Int) := by omega
    have z3 : (0 : Int) ≤ (c1 : Int) := by omega
    by_cases hck : c1 = k
    · have hke : k = l.length := by omega
      have hce : c1 = l.length := by omega
      rw [if_pos hck] at HJ HD
      clear hck
      subst hke
      subst hce
      rw [Nat.sub_self] at HJ HD
      clear hcap hkl z1 z2 z3
      go_upto_region 8 with fail
      clear hk e1 e2
      have HBD := Lib.hid (below_drew w3)
      refine wp_region_held_drew (S := (fun W : World => Below w3.heap.size w3 W)) (by kernel_rfl) (below_drew w3) (fun hHeld => ?_)
      refine wpAnyH_take (i := 0) (oi := { dst := Option.some 41, op := Go.Op.move (Go.Operand.tmp 5), type := 23, pos := "laws.go:481", after := #[], guard := Option.none }) (v := ?v1) rfl (by kernel_rfl) (by kernel_rfl) (by kernel_rfl) (fun _ _ _ h => h) (Or.inl ⟨by rfl, ?hy1⟩) (by assumption) ?rest1
      case hy1 =>
        intro w9 hSw
        clear hSw
        go_simp
        first | done | with_reducible rfl
      (try simp only [Act.put]); (try simp only [List.setIfInBounds_toArray]); (try simp only [List.set_cons_succ]); (try simp only [List.set_cons_zero])
      refine wpAnyH_take (i := 1) (oi := { dst := Option.some 42, op := Go.Op.move (Go.Operand.tmp 7), type := 3, pos := "laws.go:481", after := #[], guard := Option.none }) (v := ?v2) rfl (by kernel_rfl) (by kernel_rfl) (by kernel_rfl) (fun _ _ _ h => h) (Or.inl ⟨by rfl, ?hy2⟩) (by assumption) ?rest2
      case hy2 =>
        intro w9 hSw
        clear hSw
        go_simp
        first | done | with_reducible rfl
      (try simp only [Act.put]); (try simp only [List.setIfInBounds_toArray]); (try simp only [List.set_cons_succ]); (try simp only [List.set_cons_zero])
      refine wpAnyH_take (i := 2) (oi := { dst := Option.some 43, op := Go.Op.slice 23 (Go.Operand.tmp 41) (Option.some (Go.Operand.tmp 42)) Option.none Option.none, type := 23, pos := "laws.go:481", after := #[{ on := 0, ground := Go.Ground.data }, { on := 1, ground := Go.Ground.data }], guard := Option.none }) (v := ?v3) rfl (by kernel_rfl) (by kernel_rfl) (by kernel_rfl) (fun _ _ _ h => h) (Or.inl ⟨by rfl, ?hy3⟩) (by assumption) ?rest3
      case hy3 =>
        intro w9 hSw
        clear hSw
        go_simp
        first | done | with_reducible rfl
      (try simp only [Act.put]); (try simp only [List.setIfInBounds_toArray]); (try simp only [List.set_cons_succ]); (try simp only [List.set_cons_zero])
      refine wpAnyH_take (i := 3) (oi := { dst := Option.some 44, op := Go.Op.move (Go.Operand.tmp 5), type := 23, pos := "laws.go:481", after := #[], guard := Option.none }) (v := ?v4) rfl (by kernel_rfl) (by kernel_rfl) (by kernel_rfl) (fun _ _ _ h => h) (Or.inl ⟨by rfl, ?hy4⟩) (by assumption) ?rest4
      case hy4 =>
        intro w9 hSw
        clear hSw
        go_simp
        first | done | with_reducible rfl
      (try simp only [Act.put]); (try simp only [List.setIfInBounds_toArray]); (try simp only [List.set_cons_succ]); (try simp only [List.set_cons_zero])
      refine wpAnyH_take (i := 4) (oi := { dst := Option.some 45, op := Go.Op.move (Go.Operand.tmp 7), type := 3, pos := "laws.go:481", after := #[], guard := Option.none }) (v := ?v5) rfl (by kernel_rfl) (by kernel_rfl) (by kernel_rfl) (fun _ _ _ h => h) (Or.inl ⟨by rfl, ?hy5⟩) (by assumption) ?rest5
      case hy5 =>
        intro w9 hSw
        clear hSw
        go_simp
        first | done | with_reducible rfl
      (try simp only [Act.put]); (try simp only [List.setIfInBounds_toArray]); (try simp only [List.set_cons_succ]); (try simp only [List.set_cons_zero])
      refine wpAnyH_take (i := 5) (oi := { dst := Option.some 46, op := Go.Op.slice 23 (Go.Operand.tmp 44) Option.none (Option.some (Go.Operand.tmp 45)) Option.none, type := 23, pos := "laws.go:481", after := #[{ on := 3, ground := Go.Ground.data }, { on := 4, ground := Go.Ground.data }], guard := Option.none }) (v := ?v6) rfl (by kernel_rfl) (by kernel_rfl) (by kernel_rfl) (fun _ _ _ h => h) (Or.inl ⟨by rfl, ?hy6⟩) (by assumption) ?rest6
      case hy6 =>
        intro w9 hSw
        clear hSw
        go_simp
        first | done | with_reducible rfl
      (try simp only [Act.put]); (try simp only [List.setIfInBounds_toArray]); (try simp only [List.set_cons_succ]); (try simp only [List.set_cons_zero])
      refine wpAnyH_ready (rs := [6]) (by kernel_rfl) (by simp) ?_
      refine AllReadyH.cons (o := { dst := Option.some 47, op := Go.Op.call { callee := Go.Callee.value (Go.Operand.func 26), args := #[Go.Operand.tmp 43, Go.Operand.tmp 46], argTypes := #[23, 23] }, type := 26, pos := "laws.go:481", after := #[{ on := 2, ground := Go.Ground.data }, { on := 5, ground := Go.Ground.data }], guard := Option.none }) rfl (fun K hK => ?_) AllReadyH.nil
      go_simp
      (go_at_call 26; refine Calls.mono (HJ.out _ (HF.out.below HBD.out)) ?_; rintro e w9 ⟨AJ, cJ, rfl, hf9, hb9⟩; have HB9 := Lib.hid (HBD.out.trans (hb9.mono HBD.out.size)); have HX := Lib.hid hf9; clear hf9 hb9)
      (try go_wp2_with fail)
      refine hK.out _ _ (HB9.out) (fun hHeld => ?_)
      clear hK K
      (try simp only [Act.put]); (try simp only [List.setIfInBounds_toArray]); (try simp only [List.set_cons_succ]); (try simp only [List.set_cons_zero])
      refine wpAnyH_take (i := 7) (oi := { dst := Option.some 40, op := Go.Op.move (Go.Operand.tmp 47), type := 26, pos := "laws.go:481", after := #[{ on := 6, ground := Go.Ground.data }], guard := Option.none }) (v := ?v7) rfl (by kernel_rfl) (by kernel_rfl) (by kernel_rfl) (fun _ _ _ h => h) (Or.inl ⟨by rfl, ?hy7⟩) (by assumption) ?rest7
      case hy7 =>
        intro w9 hSw
        clear hSw
        go_simp
        first | done | with_reducible rfl
      (try simp only [Act.put]); (try simp only [List.setIfInBounds_toArray]); (try simp only [List.set_cons_succ]); (try simp only [List.set_cons_zero])
      refine wpAnyH_take (i := 8) (oi := { dst := Option.some 48, op := Go.Op.extract (Go.Operand.tmp 40) 0, type := 23, pos := "laws.go:481", after := #[{ on := 7, ground := Go.Ground.data }], guard := Option.none }) (v := ?v8) rfl (by kernel_rfl) (by kernel_rfl) (by kernel_rfl) (fun _ _ _ h => h) (Or.inl ⟨by rfl, ?hy8⟩) (by assumption) ?rest8
      case hy8 =>
        intro w9 hSw
        clear hSw
        go_simp
        first | done | with_reducible rfl
      (try simp only [Act.put]); (try simp only [List.setIfInBounds_toArray]); (try simp only [List.set_cons_succ]); (try simp only [List.set_cons_zero])
      refine wpAnyH_take (i := 9) (oi := { dst := Option.some 49, op := Go.Op.extract (Go.Operand.tmp 40) 1, type := 4, pos := "laws.go:481", after := #[{ on := 7, ground := Go.Ground.data }, { on := 10, ground := Go.Ground.gcOnly Go.Departure.lateStores }], guard := Option.none }) (v := ?v9) rfl (by kernel_rfl) (by kernel_rfl) (by kernel_rfl) (fun _ _ _ h => h) (Or.inl ⟨by rfl, ?hy9⟩) (by assumption) ?rest9
      case hy9 =>
        intro w9 hSw
        clear hSw
        go_simp
        first | done | with_reducible rfl
      (try simp only [Act.put]); (try simp only [List.setIfInBounds_toArray]); (try simp only [List.set_cons_succ]); (try simp only [List.set_cons_zero])
      refine wpAnyH_take (i := 10) (oi := { dst := Option.some 8, op := Go.Op.assign (Go.Operand.tmp 48), type := 23, pos := "laws.go:481", after := #[{ on := 8, ground := Go.Ground.data }, { on := 6, ground := Go.Ground.chain }, { on := 0, ground := Go.Ground.phase }, { on := 1, ground := Go.Ground.phase }, { on := 2, ground := Go.Ground.phase }, { on := 3, ground := Go.Ground.phase }, { on := 4, ground := Go.Ground.phase }, { on := 5, ground := Go.Ground.phase }, { on := 6, ground := Go.Ground.phase }, { on := 7, ground := Go.Ground.phase }, { on := 8, ground := Go.Ground.phase }, { on := 9, ground := Go.Ground.textOnly Go.Departure.lateStores }], guard := Option.none }) (v := ?v10) rfl (by kernel_rfl) (by kernel_rfl) (by kernel_rfl) (fun _ _ _ h => h) (Or.inl ⟨by rfl, ?hy10⟩) (by assumption) ?rest10
      case hy10 =>
        intro w9 hSw
        clear hSw
        go_simp
        first | done | with_reducible rfl
      (try simp only [Act.put]); (try simp only [List.setIfInBounds_toArray]); (try simp only [List.set_cons_succ]); (try simp only [List.set_cons_zero])
      refine wpAnyH_take (i := 11) (oi := { dst := Option.some 9, op := Go.Op.assign (Go.Operand.tmp 49), type := 4, pos := "laws.go:481", after := #[{ on := 9, ground := Go.Ground.data }, { on := 10, ground := Go.Ground.chain }, { on := 0, ground := Go.Ground.phase }, { on := 1, ground := Go.Ground.phase }, { on := 2, ground := Go.Ground.phase }, { on := 3, ground := Go.Ground.phase }, { on := 4, ground := Go.Ground.phase }, { on := 5, ground := Go.Ground.phase }, { on := 6, ground := Go.Ground.phase }, { on := 7, ground := Go.Ground.phase }, { on := 8, ground := Go.Ground.phase }, { on := 9, ground := Go.Ground.phase }, { on := 10, ground := Go.Ground.phase }], guard := Option.none }) (v := ?v11) rfl (by kernel_rfl) (by kernel_rfl) (by kernel_rfl) (fun _ _ _ h => h) (Or.inl ⟨by rfl, ?hy11⟩) (by assumption) ?rest11
      case hy11 =>
        intro w9 hSw
        clear hSw
        go_simp
        first | done | with_reducible rfl
      (try simp only [Act.put]); (try simp only [List.setIfInBounds_toArray]); (try simp only [List.set_cons_succ]); (try simp only [List.set_cons_zero])
      refine wpAnyH_done (by kernel_rfl) ?_ _
      replace HF := Lib.hid (HF.out.below HB9.out)
      replace HB := Lib.hid (HB.out.trans (HB9.out.mono HB.out.size))
      clear HB9 HBD HJ
      go_wp2_with fail
      go_at_call 24
      refine Calls.mono (HT.out _ HF.out) ?_
      rintro e w21 ⟨rfl, b_⟩
      replace HF := Lib.hid (HF.out.below b_)
      replace HX := Lib.hid (HX.out.below b_)
      replace HB := Lib.hid (HB.out.trans (b_.mono HB.out.size))
      clear b_
      go_wp2_with fail
      go_at_call 24
      refine Calls.mono (HD.out _ HF.out) ?_
      rintro e w22 ⟨rfl, b_⟩
      replace HF := Lib.hid (HF.out.below b_)
      replace HX := Lib.hid (HX.out.below b_)
      replace HB := Lib.hid (HB.out.trans (b_.mono HB.out.size))
      clear b_
      go_wp2_with fail
      go_at_call 27
      refine Calls.mono (same_few HX.out HF.out) ?_
      rintro e w23 ⟨rfl, b_⟩
      replace HF := Lib.hid (HF.out.below b_)
      replace HX := Lib.hid (HX.out.below b_)
      replace HB := Lib.hid (HB.out.trans (b_.mono HB.out.size))
      clear b_
      go_wp2
      go_ret
      exact ⟨rfl, HB.out⟩
    · rw [if_neg hck] at HJ HD
      go_upto_region 8 with fail
      clear hk e1 e2
      have HBD := Lib.hid (below_drew w3)
      refine wp_region_held_drew (S := (fun W : World => Below w3.heap.size w3 W)) (by kernel_rfl) (below_drew w3) (fun hHeld => ?_)
      refine wpAnyH_take (i := 0) (oi := { dst := Option.some 41, op := Go.Op.move (Go.Operand.tmp 5), type := 23, pos := "laws.go:481", after := #[], guard := Option.none }) (v := ?v12) rfl (by kernel_rfl) (by kernel_rfl) (by kernel_rfl) (fun _ _ _ h => h) (Or.inl ⟨by rfl, ?hy12⟩) (by assumption) ?rest12
      case hy12 =>
        intro w9 hSw
        clear hSw
        go_simp
        first | done | with_reducible rfl
      (try simp only [Act.put]); (try simp only [List.setIfInBounds_toArray]); (try simp only [List.set_cons_succ]); (try simp only [List.set_cons_zero])
      refine wpAnyH_take (i := 1) (oi := { dst := Option.some 42, op := Go.Op.move (Go.Operand.tmp 7), type := 3, pos := "laws.go:481", after := #[], guard := Option.none }) (v := ?v13) rfl (by kernel_rfl) (by kernel_rfl) (by kernel_rfl) (fun _ _ _ h => h) (Or.inl ⟨by rfl, ?hy13⟩) (by assumption) ?rest13
      case hy13 =>
        intro w9 hSw
        clear hSw
        go_simp
        first | done | with_reducible rfl
      (try simp only [Act.put]); (try simp only [List.setIfInBounds_toArray]); (try simp only [List.set_cons_succ]); (try simp only [List.set_cons_zero])
      refine wpAnyH_take (i := 2) (oi := { dst := Option.some 43, op := Go.Op.slice 23 (Go.Operand.tmp 41) (Option.some (Go.Operand.tmp 42)) Option.none Option.none, type := 23, pos := "laws.go:481", after := #[{ on := 0, ground := Go.Ground.data }, { on := 1, ground := Go.Ground.data }], guard := Option.none }) (v := ?v14) rfl (by kernel_rfl) (by kernel_rfl) (by kernel_rfl) (fun _ _ _ h => h) (Or.inl ⟨by rfl, ?hy14⟩) (by assumption) ?rest14
      case hy14 =>
        intro w9 hSw
        clear hSw
        go_simp
        first | done | with_reducible rfl
      (try simp only [Act.put]); (try simp only [List.setIfInBounds_toArray]); (try simp only [List.set_cons_succ]); (try simp only [List.set_cons_zero])
      refine wpAnyH_take (i := 3) (oi := { dst := Option.some 44, op := Go.Op.move (Go.Operand.tmp 5), type := 23, pos := "laws.go:481", after := #[], guard := Option.none }) (v := ?v15) rfl (by kernel_rfl) (by kernel_rfl) (by kernel_rfl) (fun _ _ _ h => h) (Or.inl ⟨by rfl, ?hy15⟩) (by assumption) ?rest15
      case hy15 =>
        intro w9 hSw
        clear hSw
        go_simp
        first | done | with_reducible rfl
      (try simp only [Act.put]); (try simp only [List.setIfInBounds_toArray]); (try simp only [List.set_cons_succ]); (try simp only [List.set_cons_zero])
      refine wpAnyH_take (i := 4) (oi := { dst := Option.some 45, op := Go.Op.move (Go.Operand.tmp 7), type := 3, pos := "laws.go:481", after := #[], guard := Option.none }) (v := ?v16) rfl (by kernel_rfl) (by kernel_rfl) (by kernel_rfl) (fun _ _ _ h => h) (Or.inl ⟨by rfl, ?hy16⟩) (by assumption) ?rest16
      case hy16 =>
        intro w9 hSw
        clear hSw
        go_simp
        first | done | with_reducible rfl
      (try simp only [Act.put]); (try simp only [List.setIfInBounds_toArray]); (try simp only [List.set_cons_succ]); (try simp only [List.set_cons_zero])
      refine wpAnyH_take (i := 5) (oi := { dst := Option.some 46, op := Go.Op.slice 23 (Go.Operand.tmp 44) Option.none (Option.some (Go.Operand.tmp 45)) Option.none, type := 23, pos := "laws.go:481", after := #[{ on := 3, ground := Go.Ground.data }, { on := 4, ground := Go.Ground.data }], guard := Option.none }) (v := ?v17) rfl (by kernel_rfl) (by kernel_rfl) (by kernel_rfl) (fun _ _ _ h => h) (Or.inl ⟨by rfl, ?hy17⟩) (by assumption) ?rest17
      case hy17 =>
        intro w9 hSw
        clear hSw
        go_simp
        first | done | with_reducible rfl
      (try simp only [Act.put]); (try simp only [List.setIfInBounds_toArray]); (try simp only [List.set_cons_succ]); (try simp only [List.set_cons_zero])
      refine wpAnyH_ready (rs := [6]) (by kernel_rfl) (by simp) ?_
      refine AllReadyH.cons (o := { dst := Option.some 47, op := Go.Op.call { callee := Go.Callee.value (Go.Operand.func 26), args := #[Go.Operand.tmp 43, Go.Operand.tmp 46], argTypes := #[23, 23] }, type := 26, pos := "laws.go:481", after := #[{ on := 2, ground := Go.Ground.data }, { on := 5, ground := Go.Ground.data }], guard := Option.none }) rfl (fun K hK => ?_) AllReadyH.nil
      go_simp
      (go_at_call 26; refine Calls.mono (HJ.out _ (HF.out.below HBD.out)) ?_; rintro e w9 ⟨AJ, cJ, rfl, hf9, hb9⟩; have HB9 := Lib.hid (HBD.out.trans (hb9.mono HBD.out.size)); have HX := Lib.hid hf9; clear hf9 hb9)
      (try go_wp2_with fail)
      refine hK.out _ _ (HB9.out) (fun hHeld => ?_)
      clear hK K
      (try simp only [Act.put]); (try simp only [List.setIfInBounds_toArray]); (try simp only [List.set_cons_succ]); (try simp only [List.set_cons_zero])
      refine wpAnyH_take (i := 7) (oi := { dst := Option.some 40, op := Go.Op.move (Go.Operand.tmp 47), type := 26, pos := "laws.go:481", after := #[{ on := 6, ground := Go.Ground.data }], guard := Option.none }) (v := ?v18) rfl (by kernel_rfl) (by kernel_rfl) (by kernel_rfl) (fun _ _ _ h => h) (Or.inl ⟨by rfl, ?hy18⟩) (by assumption) ?rest18
      case hy18 =>
        intro w9 hSw
        clear hSw
        go_simp
        first | done | with_reducible rfl
      (try simp only [Act.put]); (try simp only [List.setIfInBounds_toArray]); (try simp only [List.set_cons_succ]); (try simp only [List.set_cons_zero])
      refine wpAnyH_take (i := 8) (oi := { dst := Option.some 48, op := Go.Op.extract (Go.Operand.tmp 40) 0, type := 23, pos := "laws.go:481", after := #[{ on := 7, ground := Go.Ground.data }], guard := Option.none }) (v := ?v19) rfl (by kernel_rfl) (by kernel_rfl) (by kernel_rfl) (fun _ _ _ h => h) (Or.inl ⟨by rfl, ?hy19⟩) (by assumption) ?rest19
      case hy19 =>
        intro w9 hSw
        clear hSw
        go_simp
        first | done | with_reducible rfl
      (try simp only [Act.put]); (try simp only [List.setIfInBounds_toArray]); (try simp only [List.set_cons_succ]); (try simp only [List.set_cons_zero])
      refine wpAnyH_take (i := 9) (oi := { dst := Option.some 49, op := Go.Op.extract (Go.Operand.tmp 40) 1, type := 4, pos := "laws.go:481", after := #[{ on := 7, ground := Go.Ground.data }, { on := 10, ground := Go.Ground.gcOnly Go.Departure.lateStores }], guard := Option.none }) (v := ?v20) rfl (by kernel_rfl) (by kernel_rfl) (by kernel_rfl) (fun _ _ _ h => h) (Or.inl ⟨by rfl, ?hy20⟩) (by assumption) ?rest20
      case hy20 =>
        intro w9 hSw
        clear hSw
        go_simp
        first | done | with_reducible rfl
      (try simp only [Act.put]); (try simp only [List.setIfInBounds_toArray]); (try simp only [List.set_cons_succ]); (try simp only [List.set_cons_zero])
      refine wpAnyH_take (i := 10) (oi := { dst := Option.some 8, op := Go.Op.assign (Go.Operand.tmp 48), type := 23, pos := "laws.go:481", after := #[{ on := 8, ground := Go.Ground.data }, { on := 6, ground := Go.Ground.chain }, { on := 0, ground := Go.Ground.phase }, { on := 1, ground := Go.Ground.phase }, { on := 2, ground := Go.Ground.phase }, { on := 3, ground := Go.Ground.phase }, { on := 4, ground := Go.Ground.phase }, { on := 5, ground := Go.Ground.phase }, { on := 6, ground := Go.Ground.phase }, { on := 7, ground := Go.Ground.phase }, { on := 8, ground := Go.Ground.phase }, { on := 9, ground := Go.Ground.textOnly Go.Departure.lateStores }], guard := Option.none }) (v := ?v21) rfl (by kernel_rfl) (by kernel_rfl) (by kernel_rfl) (fun _ _ _ h => h) (Or.inl ⟨by rfl, ?hy21⟩) (by assumption) ?rest21
      case hy21 =>
        intro w9 hSw
        clear hSw
        go_simp
        first | done | with_reducible rfl
      (try simp only [Act.put]); (try simp only [List.setIfInBounds_toArray]); (try simp only [List.set_cons_succ]); (try simp only [List.set_cons_zero])
      refine wpAnyH_take (i := 11) (oi := { dst := Option.some 9, op := Go.Op.assign (Go.Operand.tmp 49), type := 4, pos := "laws.go:481", after := #[{ on := 9, ground := Go.Ground.data }, { on := 10, ground := Go.Ground.chain }, { on := 0, ground := Go.Ground.phase }, { on := 1, ground := Go.Ground.phase }, { on := 2, ground := Go.Ground.phase }, { on := 3, ground := Go.Ground.phase }, { on := 4, ground := Go.Ground.phase }, { on := 5, ground := Go.Ground.phase }, { on := 6, ground := Go.Ground.phase }, { on := 7, ground := Go.Ground.phase }, { on := 8, ground := Go.Ground.phase }, { on := 9, ground := Go.Ground.phase }, { on := 10, ground := Go.Ground.phase }], guard := Option.none }) (v := ?v22) rfl (by kernel_rfl) (by kernel_rfl) (by kernel_rfl) (fun _ _ _ h => h) (Or.inl ⟨by rfl, ?hy22⟩) (by assumption) ?rest22
      case hy22 =>
        intro w9 hSw
        clear hSw
        go_simp
        first | done | with_reducible rfl
      (try simp only [Act.put]); (try simp only [List.setIfInBounds_toArray]); (try simp only [List.set_cons_succ]); (try simp only [List.set_cons_zero])
      refine wpAnyH_done (by kernel_rfl) ?_ _
      replace HF := Lib.hid (HF.out.below HB9.out)
      replace HB := Lib.hid (HB.out.trans (HB9.out.mono HB.out.size))
      clear HB9 HBD HJ
      go_wp2_with fail
      go_at_call 24
      refine Calls.mono (HT.out _ HF.out) ?_
      rintro e w21 ⟨rfl, b_⟩
      replace HF := Lib.hid (HF.out.below b_)
      replace HX := Lib.hid (HX.out.below b_)
      replace HB := Lib.hid (HB.out.trans (b_.mono HB.out.size))
      clear b_
      go_wp2_with fail
      go_at_call 24
      refine Calls.mono (HD.out _ HF.out) ?_
      rintro e w22 ⟨rfl, b_⟩
      replace HF := Lib.hid (HF.out.below b_)
      replace HX := Lib.hid (HX.out.below b_)
      replace HB := Lib.hid (HB.out.trans (b_.mono HB.out.size))
      clear b_
      go_wp2_with fail
      go_at_call 27
      refine Calls.mono (same_few HX.out HF.out) ?_
      rintro e w23 ⟨rfl, b_⟩
      replace HF := Lib.hid (HF.out.below b_)
      replace HX := Lib.hid (HX.out.below b_)
      replace HB := Lib.hid (HB.out.trans (b_.mono HB.out.size))
      clear b_
      go_wp2
      go_ret
      exact ⟨rfl, HB.out⟩
  · go_wp2_with fail
    go_at_call 24
    refine Calls.mono (runI_is HF.out hrun) ?_
    rintro e w2 ⟨rfl, b_⟩
    replace HF := Lib.hid (HF.out.below b_)
    replace HB := Lib.hid (HB.out.trans (b_.mono HB.out.size))
    clear b_
    go_wp2_with fail
    go_at_call 25
    refine Calls.mono (runS_is HF.out hrun) ?_
    rintro e w3 ⟨rfl, b_⟩
    replace HF := Lib.hid (HF.out.below b_)
    replace HB := Lib.hid (HB.out.trans (b_.mono HB.out.size))
    clear b_
    go_wp2_with fail
    go_at_call 25
    refine Calls.mono (runS_is HF.out hrun) ?_
    rintro e w4 ⟨rfl, b_⟩
    replace HF := Lib.hid (HF.out.below b_)
    replace HB := Lib.hid (HB.out.trans (b_.mono HB.out.size))
    clear b_
    go_wp2
    go_ret
    exact ⟨rfl, HB.out⟩

end Go.Proofs.Ytfpgjkanmanajaa.W
