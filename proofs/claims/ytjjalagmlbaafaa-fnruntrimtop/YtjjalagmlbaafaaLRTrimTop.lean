/-
  The law FnRunTrimTop (P34), as a walk over the contracts.
-/
import Derived.Test.YtjjalagmlbaafaaGE
import Derived.Deep.CutRange
import Derived.Deep.RegionHeld
namespace Go.Proofs.Ytjjalagmlbaafaa.W
open Go.RowKit K R

theorem trim_top {l : List En} (h : runB l = true) (times : List Int) (bot : Bool) : (∀ t ∈ times, ∀ s, atO (trimO l times false) s t = atO l s t) ∧ keysO (trimO l times false) = keysO l ∧ (trimO l times bot).length ≤ (trimO l times false).length := by
  have e : trimO l times false = visL l times := trimO_run h times false
  have ho := (run_iff.mp h).2.2
  have hv := run_part h (vis_sub l times)
  rw [e]
  refine ⟨fun t ht s => ?_, ?_, ?_⟩
  · rw [atO_run hv, atO_run h]; exact vis_at ho ht s
  · unfold keysO; rw [if_pos hv, if_pos h]; exact vis_keys ho times
  · rw [trimO_run h]; exact trim_len l times bot
theorem below_blank (w : World) : Below w.heap.size w (w.alloc (.cells #[.string ⟨#[]⟩, .int .i64 0, .bool false, .int .i64 0] 33)) := (Below.refl _ _).alloc (Nat.le_refl _) _
/-- an entry stored into a new box, whatever came between -/
theorem box_of (w9 : World) (x0 : ByteArray) (x1 : Int) (x2 : Bool) (x3 : Int) {wr : World} (h : Below wr.heap.size wr w9) : Box (w9.alloc (.cells #[.string x0, .int .i64 x1, .bool x2, .int .i64 x3] 33)) w9.heap.size x0 x1 x2 x3 ∧ Below wr.heap.size wr (w9.alloc (.cells #[.string x0, .int .i64 x1, .bool x2, .int .i64 x3] 33)) :=
  ⟨Box.new _ _ _ _ _, h.alloc h.size _⟩
theorem box_set {wr w9 : World} {y0 : ByteArray} {y1 : Int} {y2 : Bool} {y3 : Int} (x0 : ByteArray) (x1 : Int) (x2 : Bool) (x3 : Int) (h : Below wr.heap.size wr w9) (hb : Box w9 wr.heap.size y0 y1 y2 y3) :
    Box ((((w9.setCell ⟨wr.heap.size, 0, none⟩ (.string x0)).setCell ⟨wr.heap.size, 1, none⟩ (.int .i64 x1)).setCell ⟨wr.heap.size, 2, none⟩ (.bool x2)).setCell ⟨wr.heap.size, 3, none⟩ (.int .i64 x3)) wr.heap.size x0 x1 x2 x3 ∧ Below wr.heap.size wr ((((w9.setCell ⟨wr.heap.size, 0, none⟩ (.string x0)).setCell ⟨wr.heap.size, 1, none⟩ (.int .i64 x1)).setCell ⟨wr.heap.size, 2, none⟩ (.bool x2)).setCell ⟨wr.heap.size, 3, none⟩ (.int .i64 x3)) :=
  ⟨box_four hb _ _ _ _, (((h.setCell (p := ⟨wr.heap.size, 0, none⟩) (Nat.le_refl _) _).setCell (p := ⟨wr.heap.size, 1, none⟩) (Nat.le_refl _) _).setCell (p := ⟨wr.heap.size, 2, none⟩) (Nat.le_refl _) _).setCell (p := ⟨wr.heap.size, 3, none⟩) (Nat.le_refl _) _⟩
/-- RunAt behind the new box -/
theorem atB {wr : World} {A : Option Addr} {c : Nat} {l : List En} (h : Few wr A c l) {s : ByteArray} {t : Int} {o : Option En} (ho : atO l s t = o) {x0 : ByteArray} {x1 : Int} {x2 : Bool} {x3 : Int} {b : Bool} (he : atE o = ⟨x0, x1, x2, x3⟩) (hb : o.isSome = b) :
    Calls Try.prog 29 #[.slice A l.length c, .string s, .int .i64 t] (wr.alloc (.cells #[.string ⟨#[]⟩, .int .i64 0, .bool false, .int .i64 0] 33)).drew fun e w' => e = .returned (.tuple #[.agg #[.string x0, .int .i64 x1, .bool x2, .int .i64 x3], .bool b]) ∧ Box w' wr.heap.size ⟨#[]⟩ 0 false 0 ∧ Below wr.heap.size wr w' := by
  obtain ⟨WB, hWB⟩ : ∃ W, W = (wr.alloc (.cells #[.string ⟨#[]⟩, .int .i64 0, .bool false, .int .i64 0] 33)).drew := ⟨_, rfl⟩
  have bWB : Below wr.heap.size wr WB := by rw [hWB]; exact bel2 (below_blank wr) (by rfl) (by rfl) (by rfl) (by rfl)
  have hbk : Box WB wr.heap.size ⟨#[]⟩ 0 false 0 := by rw [hWB]; exact heap_alloc_new wr _
  rw [← hWB]
  exact (atI_is (h.below bWB) ho he hb).mono fun _ _ ⟨h1, h2⟩ => ⟨h1, hbk.keep h2, bWB.trans (h2.mono bWB.size)⟩
theorem samesTop {W : World} {A A2 : Option Addr} {c c2 : Nat} {l : List ByteArray} (h : Strs W W.heap.size A l.length l) (h2 : Strs W W.heap.size A2 l.length l) (hl : l.length ≤ 1000) : Calls Try.prog 36 #[.slice A l.length c, .slice A2 l.length c2] W fun e w' => e = .returned (.bool true) ∧ Below W.heap.size W w' := by
  have hm : l.length ≤ maxLen := by unfold maxLen; omega
  have h := samesL W W.heap.size l.length c l.length c2 A A2 l l h h2 hm hm
  rw [sameL_self] at h
  exact h.mono fun _ _ ⟨he, hs⟩ => ⟨he, hs.below _⟩
theorem keysTop_le (l : List En) : (keysO l).length ≤ l.length := keysO_le l

set_option maxHeartbeats 8000000 in
set_option maxRecDepth 100000 in
theorem lawRunTrimTop (w : World) (A : Option Addr) (n c : Nat) (hb0 : Bytes w w.heap.size A n) (hnc : n ≤ c) (hc : c ≤ maxLen) :
    Calls Try.prog 9 #[.slice A n c] w fun e w' => e = .returned (.bool true) ∧ Below w.heap.size w w' := by
  by_cases hbig : (1048576 : Int) < (n : Int)
  · clear hb0
    go_enter Try.func9, Try.ntmps9
    go_wp2
    go_ret
    exact ⟨rfl, Below.refl _ _⟩
  go_enter Try.func9, Try.ntmps9
  go_wp2_with fail
  go_at_call 32
  refine Calls.mono (drawRunTrim w A n c hb0 hnc hc) ?_
  rintro e w1 ⟨A1, c1, l, A9, c9, times, bot, ht4, rfl, hf, hn9, hb⟩
  have HF := Lib.hid hf
  have HN := Lib.hid (show FewN w1 A9 times from ⟨ht4, hn9⟩)
  have HB := Lib.hid hb
  have hl45 := hf.len
  clear hb0 hf hn9 hb
  go_wp2_with fail
  go_at_call 33
  refine Calls.mono (trimI_few HF.out HN.out bot) ?_
  rintro e w2 ⟨A2, c2, rfl, hf_, b_⟩
  replace HF := Lib.hid (HF.out.below b_)
  replace HN := Lib.hid (HN.out.below b_)
  replace HB := Lib.hid (HB.out.trans (b_.mono HB.out.size))
  have HX := Lib.hid hf_
  clear hf_ b_
  go_wp2_with fail
  go_at_call 34
  refine Calls.mono (trimS_few HF.out HN.out bot) ?_
  rintro e w3 ⟨A3, c3, rfl, hf_, b_⟩
  replace HF := Lib.hid (HF.out.below b_)
  replace HN := Lib.hid (HN.out.below b_)
  replace HX := Lib.hid (HX.out.below b_)
  replace HB := Lib.hid (HB.out.trans (b_.mono HB.out.size))
  have HM := Lib.hid hf_
  clear hf_ b_
  go_wp2_with fail
  go_at_call 26
  refine Calls.mono (same_few HX.out HM.out) ?_
  rintro e w4 ⟨rfl, b_⟩
  replace HF := Lib.hid (HF.out.below b_)
  replace HN := Lib.hid (HN.out.below b_)
  replace HX := Lib.hid (HX.out.below b_)
  replace HM := Lib.hid (HM.out.below b_)
  replace HB := Lib.hid (HB.out.trans (b_.mono HB.out.size))
  clear b_
  clear HM
  have HC := Lib.hid (runT_few HF.out)
  rcases Bool.eq_false_or_eq_true (runB l) with hrun | hrun
  · rw [hrun] at HC
    go_wp2_with fail
    go_at_call 24
    refine Calls.mono (HC.out) ?_
    rintro e w5 ⟨rfl, b_⟩
    replace HF := Lib.hid (HF.out.below b_)
    replace HN := Lib.hid (HN.out.below b_)
    replace HX := Lib.hid (HX.out.below b_)
    replace HB := Lib.hid (HB.out.trans (b_.mono HB.out.size))
    clear b_
    clear HC
    go_wp2_with fail
    go_at_call 33
    refine Calls.mono (trimI_few HF.out HN.out false) ?_
    rintro e w6 ⟨A5, c5, rfl, hf_, b_⟩
    replace HF := Lib.hid (HF.out.below b_)
    replace HN := Lib.hid (HN.out.below b_)
    replace HX := Lib.hid (HX.out.below b_)
    replace HB := Lib.hid (HB.out.trans (b_.mono HB.out.size))
    have HY := Lib.hid hf_
    clear hf_ b_
    obtain ⟨t1, t2, t3⟩ := trim_top hrun times bot
    have hkq := keysO_le l
    have HKI := Lib.hid (show ∀ W, Few W A5 c5 (trimO l times false) → Calls Try.prog 35 #[.slice A5 (trimO l times false).length c5] W (New W (keysO l)) from fun W h => by have h2 := keysT_few h; rw [t2] at h2; exact h2)
    have HT1 := Lib.hid t1
    have HLE := Lib.hid t3
    have hx45 := HX.out.len
    have hy45 := HY.out.len
    clear t1 t2 t3 hrun
    have HC := Lib.hid (keysT_few HF.out)
    obtain ⟨ks, hks⟩ : ∃ y, y = keysO l := ⟨_, rfl⟩
    obtain ⟨y, hy⟩ : ∃ y, y = trimO l times false := ⟨_, rfl⟩
    obtain ⟨xs, hxs⟩ : ∃ y, y = trimO l times bot := ⟨_, rfl⟩
    rw [← hks] at HC HKI hkq
    rw [← hy] at HY HKI HT1 HLE hy45
    rw [← hxs] at HX HLE hx45
    rw [← hy, ← hxs]
    clear hks hy hxs
    go_wp2_with fail
    go_at_call 35
    refine Calls.mono (HC.out) ?_
    rintro e w7 ⟨kv_, rfl, ok_, b_⟩
    obtain ⟨AK, cK, hkv_, -, -, sk_⟩ := ok_.parts
    subst hkv_
    replace HF := Lib.hid (HF.out.below b_)
    replace HN := Lib.hid (HN.out.below b_)
    replace HX := Lib.hid (HX.out.below b_)
    replace HY := Lib.hid (HY.out.below b_)
    replace HB := Lib.hid (HB.out.trans (b_.mono HB.out.size))
    have HK := Lib.hid sk_
    clear ok_ b_ sk_ HC
    go_wp2_with fail
    go_loopw [9] (fun i wr => ∃ k : Nat, k ≤ ks.length ∧ i = .int .i64 (k : Nat) ∧ Below w7.heap.size w7 wr) (fun i _ => ks.length - (intOf i).toNat)
    case atStart => exact ⟨0, Nat.zero_le _, rfl, Below.refl _ _⟩
    case round =>
      obtain ⟨k, hk, rfl, hb⟩ := hrel
      have HBO := Lib.hid hb
      clear hb
      by_cases hlt : k < ks.length
      · obtain ⟨wo, hwo⟩ : ∃ wo, wo = wr := ⟨_, rfl⟩
        subst hwo
        obtain ⟨s, hs⟩ : ∃ s, s = ks[k] := ⟨_, rfl⟩
        have HS := Lib.hid hs
        have z0 : (0 : Int) ≤ (k : Int) := by omega
        have z1 : (k : Int) < (ks.length : Int) := by omega
        clear hs
        go_wp2_with fail
        go_loopw [10] (fun i wr => ∃ m : Nat, m ≤ times.length ∧ i = .int .i64 (m : Nat) ∧ Below w7.heap.size w7 wr) (fun i _ => times.length - (intOf i).toNat)
        case atStart => exact ⟨0, Nat.zero_le _, rfl, HBO.out⟩
        case round =>
          obtain ⟨m, hm, rfl, hb⟩ := hrel
          have HBL := Lib.hid hb
          clear hb
          have ht4' := ht4
          by_cases hmt : m < times.length
          · obtain ⟨kb, ko, hA, hkb, d0⟩ := (HK.out.below HBL.out (Nat.le_refl _)).cell k hlt
            subst hA
            rw [← HS.out] at d0
            have HNW := Lib.hid (HN.out.below HBL.out)
            obtain ⟨nb, no, hA2, hnb, g0⟩ := HNW.out.nums.cell m hmt
            subst hA2
            obtain ⟨t, ht⟩ : ∃ t, t = times[m] := ⟨_, rfl⟩
            rw [← ht] at g0
            have HTM := Lib.hid (show atO y s t = atO l s t from HT1.out t (by rw [ht]; exact List.getElem_mem hmt) s)
            have y0 : (0 : Int) ≤ (m : Int) := by omega
            have y1 : (m : Int) < (times.length : Int) := by omega
            have hkbw : kb < wr.heap.size := Nat.lt_of_lt_of_le hkb HBL.out.size
            obtain ⟨x0, x1, x2, x3, b, hx, hbs⟩ := at_letters (atO l s t)
            have HCA := Lib.hid (show ∀ W, Below wr.heap.size wr W → Calls Try.prog 29 #[.slice A1 l.length c1, .string s, .int .i64 t] W fun e w' => e = .returned (.tuple #[.agg #[.string x0, .int .i64 x1, .bool x2, .int .i64 x3], .bool b]) ∧ Below wr.heap.size wr w' from fun W hW => (atI_is ((HF.out.below HBL.out).below hW) rfl hx hbs).mono fun _ _ ⟨he, hb⟩ => ⟨he, hW.trans (hb.mono hW.size)⟩)
            have HSS := Lib.hid (show ∀ W, Below wr.heap.size wr W → (fun W : World => W.cell? ⟨kb, ko + k, none⟩ = some (.string s) ∧ W.cell? ⟨nb, no + m, none⟩ = some (.int .i64 t)) W from fun W hW => ⟨(hW.cell (p := ⟨kb, ko + k, none⟩) hkbw).trans d0, (hW.cell (p := ⟨nb, no + m, none⟩) hnb).trans g0⟩)
            have HCB := Lib.hid (atB (HF.out.below HBL.out) (s := s) (t := t) rfl hx hbs)
            clear ht d0 g0
            go_upto_region 15 with fail
            go_cut [11, 12] from 63 to 75 (fun s11 s12 wx => ∃ bx, s11 = .pointer (some ⟨bx, 0, none⟩) ∧ s12 = .bool b ∧ Hid (Box wx bx x0 x1 x2 x3 ∧ Below wr.heap.size wr wx))
            case first =>
              refine wp_region_held_drew (S := (fun W : World => W.cell? ⟨kb, ko + k, none⟩ = some (.string s) ∧ W.cell? ⟨nb, no + m, none⟩ = some (.int .i64 t))) (by kernel_rfl) (HSS.out _ (by first | exact HB9.out | exact bel2 (Below.refl wr.heap.size wr) (by rfl) (by rfl) (by rfl) (by rfl))) (fun hHeld => ?_)
              refine wpAnyH_take (i := 0) (oi := { dst := Option.some 64, op := Go.Op.move (Go.Operand.tmp 3), type := 23, pos := "laws.go:600", after := #[], guard := Option.none }) (v := ?v9) rfl (by kernel_rfl) (by kernel_rfl) (by kernel_rfl) (fun _ _ _ h => h) (Or.inl ⟨by rfl, ?hy9⟩) (by assumption) ?rest9
              case hy9 =>
                intro w9 hSw
                clear hSw
                go_simp
                first | done | with_reducible rfl
              (try simp only [Act.put]); (try simp only [List.setIfInBounds_toArray]); (try simp only [List.set_cons_succ]); (try simp only [List.set_cons_zero])
              refine wpAnyH_take (i := 1) (oi := { dst := Option.some 65, op := Go.Op.move (Go.Operand.tmp 8), type := 43, pos := "laws.go:600", after := #[], guard := Option.none }) (v := ?v10) rfl (by kernel_rfl) (by kernel_rfl) (by kernel_rfl) (fun _ _ _ h => h) (Or.inl ⟨by rfl, ?hy10⟩) (by assumption) ?rest10
              case hy10 =>
                intro w9 hSw
                clear hSw
                go_simp
                first | done | with_reducible rfl
              (try simp only [Act.put]); (try simp only [List.setIfInBounds_toArray]); (try simp only [List.set_cons_succ]); (try simp only [List.set_cons_zero])
              refine wpAnyH_take (i := 2) (oi := { dst := Option.some 66, op := Go.Op.move (Go.Operand.tmp 9), type := 3, pos := "laws.go:600", after := #[], guard := Option.none }) (v := ?v11) rfl (by kernel_rfl) (by kernel_rfl) (by kernel_rfl) (fun _ _ _ h => h) (Or.inl ⟨by rfl, ?hy11⟩) (by assumption) ?rest11
              case hy11 =>
                intro w9 hSw
                clear hSw
                go_simp
                first | done | with_reducible rfl
              (try simp only [Act.put]); (try simp only [List.setIfInBounds_toArray]); (try simp only [List.set_cons_succ]); (try simp only [List.set_cons_zero])
              refine wpAnyH_take (i := 3) (oi := { dst := Option.some 67, op := Go.Op.indexAddr 43 (Go.Operand.tmp 65) (Go.Operand.tmp 66), type := 0, pos := "laws.go:600", after := #[{ on := 1, ground := Go.Ground.data }, { on := 2, ground := Go.Ground.data }], guard := Option.none }) (v := ?v12) rfl (by kernel_rfl) (by kernel_rfl) (by kernel_rfl) (fun _ _ _ h => h) (Or.inl ⟨by rfl, ?hy12⟩) (by assumption) ?rest12
              case hy12 =>
                intro w9 hSw
                clear hSw
                go_simp
                first | done | with_reducible rfl
              (try simp only [Act.put]); (try simp only [List.setIfInBounds_toArray]); (try simp only [List.set_cons_succ]); (try simp only [List.set_cons_zero])
              refine wpAnyH_take (i := 4) (oi := { dst := Option.some 68, op := Go.Op.load 9 (Go.Operand.tmp 67), type := 9, pos := "laws.go:600", after := #[{ on := 3, ground := Go.Ground.data }], guard := Option.none }) (v := ?v13) rfl (by kernel_rfl) (by kernel_rfl) (by kernel_rfl) (fun _ _ _ h => h) (Or.inl ⟨by rfl, ?hy13⟩) (by assumption) ?rest13
              case hy13 =>
                intro w9 hSw
                obtain ⟨f0, f1⟩ := hSw
                go_simp
                first | done | with_reducible rfl
              (try simp only [Act.put]); (try simp only [List.setIfInBounds_toArray]); (try simp only [List.set_cons_succ]); (try simp only [List.set_cons_zero])
              refine wpAnyH_take (i := 5) (oi := { dst := Option.some 69, op := Go.Op.move (Go.Operand.tmp 4), type := 39, pos := "laws.go:600", after := #[], guard := Option.none }) (v := ?v14) rfl (by kernel_rfl) (by kernel_rfl) (by kernel_rfl) (fun _ _ _ h => h) (Or.inl ⟨by rfl, ?hy14⟩) (by assumption) ?rest14
              case hy14 =>
                intro w9 hSw
                clear hSw
                go_simp
                first | done | with_reducible rfl
              (try simp only [Act.put]); (try simp only [List.setIfInBounds_toArray]); (try simp only [List.set_cons_succ]); (try simp only [List.set_cons_zero])
              refine wpAnyH_take (i := 6) (oi := { dst := Option.some 70, op := Go.Op.move (Go.Operand.tmp 10), type := 3, pos := "laws.go:600", after := #[], guard := Option.none }) (v := ?v15) rfl (by kernel_rfl) (by kernel_rfl) (by kernel_rfl) (fun _ _ _ h => h) (Or.inl ⟨by rfl, ?hy15⟩) (by assumption) ?rest15
              case hy15 =>
                intro w9 hSw
                clear hSw
                go_simp
                first | done | with_reducible rfl
              (try simp only [Act.put]); (try simp only [List.setIfInBounds_toArray]); (try simp only [List.set_cons_succ]); (try simp only [List.set_cons_zero])
              refine wpAnyH_take (i := 7) (oi := { dst := Option.some 71, op := Go.Op.indexAddr 39 (Go.Operand.tmp 69) (Go.Operand.tmp 70), type := 0, pos := "laws.go:600", after := #[{ on := 5, ground := Go.Ground.data }, { on := 6, ground := Go.Ground.data }], guard := Option.none }) (v := ?v16) rfl (by kernel_rfl) (by kernel_rfl) (by kernel_rfl) (fun _ _ _ h => h) (Or.inl ⟨by rfl, ?hy16⟩) (by assumption) ?rest16
              case hy16 =>
                intro w9 hSw
                clear hSw
                go_simp
                first | done | with_reducible rfl
              (try simp only [Act.put]); (try simp only [List.setIfInBounds_toArray]); (try simp only [List.set_cons_succ]); (try simp only [List.set_cons_zero])
              refine wpAnyH_take (i := 8) (oi := { dst := Option.some 72, op := Go.Op.load 3 (Go.Operand.tmp 71), type := 3, pos := "laws.go:600", after := #[{ on := 7, ground := Go.Ground.data }], guard := Option.none }) (v := ?v17) rfl (by kernel_rfl) (by kernel_rfl) (by kernel_rfl) (fun _ _ _ h => h) (Or.inl ⟨by rfl, ?hy17⟩) (by assumption) ?rest17
              case hy17 =>
                intro w9 hSw
                obtain ⟨f0, f1⟩ := hSw
                go_simp
                first | done | with_reducible rfl
              (try simp only [Act.put]); (try simp only [List.setIfInBounds_toArray]); (try simp only [List.set_cons_succ]); (try simp only [List.set_cons_zero])
              refine wpAnyH_ready (rs := [9, 13]) (by kernel_rfl) (by simp) ?_
              refine AllReadyH.cons (o := { dst := Option.some 73, op := Go.Op.call { callee := Go.Callee.value (Go.Operand.func 29), args := #[Go.Operand.tmp 64, Go.Operand.tmp 68, Go.Operand.tmp 72], argTypes := #[23, 9, 3] }, type := 34, pos := "laws.go:600", after := #[{ on := 0, ground := Go.Ground.data }, { on := 4, ground := Go.Ground.data }, { on := 8, ground := Go.Ground.data }], guard := Option.none }) rfl (fun K hK => ?_) (AllReadyH.cons (o := { dst := Option.some 11, op := Go.Op.alloc 33, type := 0, pos := "laws.go:600", after := #[], guard := Option.none }) rfl (fun K hK => ?_) AllReadyH.nil)
              · go_simp
                (go_at_call 29; refine Calls.mono (HCA.out _ (by first | exact HB9.out | exact bel2 (Below.refl wr.heap.size wr) (by rfl) (by rfl) (by rfl) (by rfl))) ?_; rintro e w9 ⟨rfl, hb9⟩; have HB9 := Lib.hid hb9; clear hb9)
                (try go_wp2_with fail)
                refine hK.out _ _ (HSS.out _ HB9.out) (fun hHeld => ?_)
                clear hK K
                (try simp only [Act.put]); (try simp only [List.setIfInBounds_toArray]); (try simp only [List.set_cons_succ]); (try simp only [List.set_cons_zero])
                refine wpAnyH_take (i := 10) (oi := { dst := Option.some 63, op := Go.Op.move (Go.Operand.tmp 73), type := 34, pos := "laws.go:600", after := #[{ on := 9, ground := Go.Ground.data }], guard := Option.none }) (v := ?v1) rfl (by kernel_rfl) (by kernel_rfl) (by kernel_rfl) (fun _ _ _ h => h) (Or.inl ⟨by rfl, ?hy1⟩) (by assumption) ?rest1
                case hy1 =>
                  intro w9 hSw
                  clear hSw
                  go_simp
                  first | done | with_reducible rfl
                (try simp only [Act.put]); (try simp only [List.setIfInBounds_toArray]); (try simp only [List.set_cons_succ]); (try simp only [List.set_cons_zero])
                refine wpAnyH_take (i := 11) (oi := { dst := Option.some 74, op := Go.Op.extract (Go.Operand.tmp 63) 0, type := 33, pos := "laws.go:600", after := #[{ on := 10, ground := Go.Ground.data }], guard := Option.none }) (v := ?v2) rfl (by kernel_rfl) (by kernel_rfl) (by kernel_rfl) (fun _ _ _ h => h) (Or.inl ⟨by rfl, ?hy2⟩) (by assumption) ?rest2
                case hy2 =>
                  intro w9 hSw
                  clear hSw
                  go_simp
                  first | done | with_reducible rfl
                (try simp only [Act.put]); (try simp only [List.setIfInBounds_toArray]); (try simp only [List.set_cons_succ]); (try simp only [List.set_cons_zero])
                refine wpAnyH_take (i := 12) (oi := { dst := Option.some 75, op := Go.Op.extract (Go.Operand.tmp 63) 1, type := 4, pos := "laws.go:600", after := #[{ on := 10, ground := Go.Ground.data }, { on := 14, ground := Go.Ground.gcOnly Go.Departure.lateStores }], guard := Option.none }) (v := ?v3) rfl (by kernel_rfl) (by kernel_rfl) (by kernel_rfl) (fun _ _ _ h => h) (Or.inl ⟨by rfl, ?hy3⟩) (by assumption) ?rest3
                case hy3 =>
                  intro w9 hSw
                  clear hSw
                  go_simp
                  first | done | with_reducible rfl
                (try simp only [Act.put]); (try simp only [List.setIfInBounds_toArray]); (try simp only [List.set_cons_succ]); (try simp only [List.set_cons_zero])
                have HBA := Lib.hid (HB9.out.alloc HB9.out.size (.cells #[.string ⟨#[]⟩, .int .i64 0, .bool false, .int .i64 0] 33))
                refine wpAnyH_ready (rs := [13]) (by kernel_rfl) (by simp) ?_
                refine AllReadyH.cons (o := { dst := Option.some 11, op := Go.Op.alloc 33, type := 0, pos := "laws.go:600", after := #[], guard := Option.none }) rfl (fun K hK => ?_) AllReadyH.nil
                go_simp
                refine hK.out _ _ (HSS.out _ HBA.out) (fun hHeld => ?_)
                clear hK K
                (try simp only [Act.put]); (try simp only [List.setIfInBounds_toArray]); (try simp only [List.set_cons_succ]); (try simp only [List.set_cons_zero])
                have HBC := Lib.hid (box_of w9 x0 x1 x2 x3 HB9.out)
                refine wpAnyH_ready (rs := [14]) (by kernel_rfl) (by simp) ?_
                refine AllReadyH.cons (o := { dst := Option.none, op := Go.Op.store 33 (Go.Operand.tmp 11) (Go.Operand.tmp 74), type := 0, pos := "laws.go:600", after := #[{ on := 13, ground := Go.Ground.data }, { on := 11, ground := Go.Ground.data }, { on := 9, ground := Go.Ground.chain }, { on := 0, ground := Go.Ground.phase }, { on := 1, ground := Go.Ground.phase }, { on := 2, ground := Go.Ground.phase }, { on := 3, ground := Go.Ground.phase }, { on := 4, ground := Go.Ground.phase }, { on := 5, ground := Go.Ground.phase }, { on := 6, ground := Go.Ground.phase }, { on := 7, ground := Go.Ground.phase }, { on := 8, ground := Go.Ground.phase }, { on := 9, ground := Go.Ground.phase }, { on := 10, ground := Go.Ground.phase }, { on := 11, ground := Go.Ground.phase }, { on := 12, ground := Go.Ground.textOnly Go.Departure.lateStores }, { on := 13, ground := Go.Ground.phase }], guard := Option.none }) rfl (fun K hK => ?_) AllReadyH.nil
                go_simp
                refine hK.out _ _ (HSS.out _ HBC.out.2) (fun hHeld => ?_)
                clear hK K
                (try simp only [Act.put]); (try simp only [List.setIfInBounds_toArray]); (try simp only [List.set_cons_succ]); (try simp only [List.set_cons_zero])
                refine wpAnyH_take (i := 15) (oi := { dst := Option.some 12, op := Go.Op.assign (Go.Operand.tmp 75), type := 4, pos := "laws.go:600", after := #[{ on := 12, ground := Go.Ground.data }, { on := 14, ground := Go.Ground.chain }, { on := 0, ground := Go.Ground.phase }, { on := 1, ground := Go.Ground.phase }, { on := 2, ground := Go.Ground.phase }, { on := 3, ground := Go.Ground.phase }, { on := 4, ground := Go.Ground.phase }, { on := 5, ground := Go.Ground.phase }, { on := 6, ground := Go.Ground.phase }, { on := 7, ground := Go.Ground.phase }, { on := 8, ground := Go.Ground.phase }, { on := 9, ground := Go.Ground.phase }, { on := 10, ground := Go.Ground.phase }, { on := 11, ground := Go.Ground.phase }, { on := 12, ground := Go.Ground.phase }, { on := 13, ground := Go.Ground.phase }, { on := 14, ground := Go.Ground.phase }], guard := Option.none }) (v := ?v4) rfl (by kernel_rfl) (by kernel_rfl) (by kernel_rfl) (fun _ _ _ h => h) (Or.inl ⟨by rfl, ?hy4⟩) (by assumption) ?rest4
                case hy4 =>
                  intro w9 hSw
                  clear hSw
                  go_simp
                  first | done | with_reducible rfl
                (try simp only [Act.put]); (try simp only [List.setIfInBounds_toArray]); (try simp only [List.set_cons_succ]); (try simp only [List.set_cons_zero])
                refine wpAnyH_done (by kernel_rfl) ?_ _
                go_wp2_with fail
                go_meet
                exact ⟨_, rfl, rfl, Lib.hid ⟨HBC.out.1, HBC.out.2⟩⟩
              · have HBA := Lib.hid (below_blank wr)
                go_simp
                refine hK.out _ _ (HSS.out _ (by exact bel2 HBA.out (by rfl) (by rfl) (by rfl) (by rfl))) (fun hHeld => ?_)
                clear hK K
                (try simp only [Act.put]); (try simp only [List.setIfInBounds_toArray]); (try simp only [List.set_cons_succ]); (try simp only [List.set_cons_zero])
                refine wpAnyH_ready (rs := [9]) (by kernel_rfl) (by simp) ?_
                refine AllReadyH.cons (o := { dst := Option.some 73, op := Go.Op.call { callee := Go.Callee.value (Go.Operand.func 29), args := #[Go.Operand.tmp 64, Go.Operand.tmp 68, Go.Operand.tmp 72], argTypes := #[23, 9, 3] }, type := 34, pos := "laws.go:600", after := #[{ on := 0, ground := Go.Ground.data }, { on := 4, ground := Go.Ground.data }, { on := 8, ground := Go.Ground.data }], guard := Option.none }) rfl (fun K hK => ?_) AllReadyH.nil
                go_simp
                go_at_call 29
                refine Calls.mono HCB.out ?_
                rintro e w9 ⟨rfl, hbx, hb9⟩
                have HB9 := Lib.hid hb9
                have HBX := Lib.hid hbx
                obtain ⟨q0, q1, q2, q3⟩ := hbx.cells
                have r0 := frozen_of_row _ _ 0 _ _ hbx
                have r1 := frozen_of_row _ _ 1 _ _ hbx
                have r2 := frozen_of_row _ _ 2 _ _ hbx
                have r3 := frozen_of_row _ _ 3 _ _ hbx
                clear hbx hb9
                (try go_wp2_with fail)
                refine hK.out _ _ (HSS.out _ HB9.out) (fun hHeld => ?_)
                clear hK K
                (try simp only [Act.put]); (try simp only [List.setIfInBounds_toArray]); (try simp only [List.set_cons_succ]); (try simp only [List.set_cons_zero])
                refine wpAnyH_take (i := 10) (oi := { dst := Option.some 63, op := Go.Op.move (Go.Operand.tmp 73), type := 34, pos := "laws.go:600", after := #[{ on := 9, ground := Go.Ground.data }], guard := Option.none }) (v := ?v5) rfl (by kernel_rfl) (by kernel_rfl) (by kernel_rfl) (fun _ _ _ h => h) (Or.inl ⟨by rfl, ?hy5⟩) (by assumption) ?rest5
                case hy5 =>
                  intro w9 hSw
                  clear hSw
                  go_simp
                  first | done | with_reducible rfl
                (try simp only [Act.put]); (try simp only [List.setIfInBounds_toArray]); (try simp only [List.set_cons_succ]); (try simp only [List.set_cons_zero])
                refine wpAnyH_take (i := 11) (oi := { dst := Option.some 74, op := Go.Op.extract (Go.Operand.tmp 63) 0, type := 33, pos := "laws.go:600", after := #[{ on := 10, ground := Go.Ground.data }], guard := Option.none }) (v := ?v6) rfl (by kernel_rfl) (by kernel_rfl) (by kernel_rfl) (fun _ _ _ h => h) (Or.inl ⟨by rfl, ?hy6⟩) (by assumption) ?rest6
                case hy6 =>
                  intro w9 hSw
                  clear hSw
                  go_simp
                  first | done | with_reducible rfl
                (try simp only [Act.put]); (try simp only [List.setIfInBounds_toArray]); (try simp only [List.set_cons_succ]); (try simp only [List.set_cons_zero])
                refine wpAnyH_take (i := 12) (oi := { dst := Option.some 75, op := Go.Op.extract (Go.Operand.tmp 63) 1, type := 4, pos := "laws.go:600", after := #[{ on := 10, ground := Go.Ground.data }, { on := 14, ground := Go.Ground.gcOnly Go.Departure.lateStores }], guard := Option.none }) (v := ?v7) rfl (by kernel_rfl) (by kernel_rfl) (by kernel_rfl) (fun _ _ _ h => h) (Or.inl ⟨by rfl, ?hy7⟩) (by assumption) ?rest7
                case hy7 =>
                  intro w9 hSw
                  clear hSw
                  go_simp
                  first | done | with_reducible rfl
                (try simp only [Act.put]); (try simp only [List.setIfInBounds_toArray]); (try simp only [List.set_cons_succ]); (try simp only [List.set_cons_zero])
                have HBC := Lib.hid (box_set x0 x1 x2 x3 HB9.out HBX.out)
                refine wpAnyH_ready (rs := [14]) (by kernel_rfl) (by simp) ?_
                refine AllReadyH.cons (o := { dst := Option.none, op := Go.Op.store 33 (Go.Operand.tmp 11) (Go.Operand.tmp 74), type := 0, pos := "laws.go:600", after := #[{ on := 13, ground := Go.Ground.data }, { on := 11, ground := Go.Ground.data }, { on := 9, ground := Go.Ground.chain }, { on := 0, ground := Go.Ground.phase }, { on := 1, ground := Go.Ground.phase }, { on := 2, ground := Go.Ground.phase }, { on := 3, ground := Go.Ground.phase }, { on := 4, ground := Go.Ground.phase }, { on := 5, ground := Go.Ground.phase }, { on := 6, ground := Go.Ground.phase }, { on := 7, ground := Go.Ground.phase }, { on := 8, ground := Go.Ground.phase }, { on := 9, ground := Go.Ground.phase }, { on := 10, ground := Go.Ground.phase }, { on := 11, ground := Go.Ground.phase }, { on := 12, ground := Go.Ground.textOnly Go.Departure.lateStores }, { on := 13, ground := Go.Ground.phase }], guard := Option.none }) rfl (fun K hK => ?_) AllReadyH.nil
                go_simp
                refine hK.out _ _ (HSS.out _ HBC.out.2) (fun hHeld => ?_)
                clear hK K
                (try simp only [Act.put]); (try simp only [List.setIfInBounds_toArray]); (try simp only [List.set_cons_succ]); (try simp only [List.set_cons_zero])
                refine wpAnyH_take (i := 15) (oi := { dst := Option.some 12, op := Go.Op.assign (Go.Operand.tmp 75), type := 4, pos := "laws.go:600", after := #[{ on := 12, ground := Go.Ground.data }, { on := 14, ground := Go.Ground.chain }, { on := 0, ground := Go.Ground.phase }, { on := 1, ground := Go.Ground.phase }, { on := 2, ground := Go.Ground.phase }, { on := 3, ground := Go.Ground.phase }, { on := 4, ground := Go.Ground.phase }, { on := 5, ground := Go.Ground.phase }, { on := 6, ground := Go.Ground.phase }, { on := 7, ground := Go.Ground.phase }, { on := 8, ground := Go.Ground.phase }, { on := 9, ground := Go.Ground.phase }, { on := 10, ground := Go.Ground.phase }, { on := 11, ground := Go.Ground.phase }, { on := 12, ground := Go.Ground.phase }, { on := 13, ground := Go.Ground.phase }, { on := 14, ground := Go.Ground.phase }], guard := Option.none }) (v := ?v8) rfl (by kernel_rfl) (by kernel_rfl) (by kernel_rfl) (fun _ _ _ h => h) (Or.inl ⟨by rfl, ?hy8⟩) (by assumption) ?rest8
                case hy8 =>
                  intro w9 hSw
                  clear hSw
                  go_simp
                  first | done | with_reducible rfl
                (try simp only [Act.put]); (try simp only [List.setIfInBounds_toArray]); (try simp only [List.set_cons_succ]); (try simp only [List.set_cons_zero])
                refine wpAnyH_done (by kernel_rfl) ?_ _
                go_wp2_with fail
                go_meet
                exact ⟨_, rfl, rfl, Lib.hid ⟨HBC.out.1, HBC.out.2⟩⟩
            case rest =>
              obtain ⟨bx, rfl, rfl, hq⟩ := hcut
              obtain ⟨wd, hwd⟩ : ∃ wd, wd = wc := ⟨_, rfl⟩
              subst hwd
              have HX1 := Lib.hid hq.out.1
              have HD := Lib.hid hq.out.2
              have HBD := Lib.hid (HBL.out.trans (hq.out.2.mono HBL.out.size))
              have HSD := Lib.hid (show ∀ W, Below wd.heap.size wd W → (fun W : World => W.cell? ⟨kb, ko + k, none⟩ = some (.string s) ∧ W.cell? ⟨nb, no + m, none⟩ = some (.int .i64 t)) W from fun W hW => HSS.out W (HD.out.trans (hW.mono HD.out.size)))
              have HCA2 := Lib.hid (show ∀ W, Below wd.heap.size wd W → Calls Try.prog 29 #[.slice A5 y.length c5, .string s, .int .i64 t] W fun e w' => e = .returned (.tuple #[.agg #[.string x0, .int .i64 x1, .bool x2, .int .i64 x3], .bool b]) ∧ Below wd.heap.size wd w' from fun W hW => (atI_is ((HY.out.below HBD.out).below hW) HTM.out hx hbs).mono fun _ _ ⟨he, hb⟩ => ⟨he, hW.trans (hb.mono hW.size)⟩)
              have HCB2 := Lib.hid (atB (HY.out.below HBD.out) (s := s) (t := t) HTM.out hx hbs)
              clear hq HSS HCA HCB
              go_upto_region 16 with fail
              go_cut [13, 14] from 76 to 88 (fun s13 s14 wx => ∃ bx, s13 = .pointer (some ⟨bx, 0, none⟩) ∧ s14 = .bool b ∧ Hid (Box wx bx x0 x1 x2 x3 ∧ Below wd.heap.size wd wx))
              case first =>
                refine wp_region_held_drew (S := (fun W : World => W.cell? ⟨kb, ko + k, none⟩ = some (.string s) ∧ W.cell? ⟨nb, no + m, none⟩ = some (.int .i64 t))) (by kernel_rfl) (HSD.out _ (by first | exact HB9.out | exact bel2 (Below.refl wd.heap.size wd) (by rfl) (by rfl) (by rfl) (by rfl))) (fun hHeld => ?_)
                refine wpAnyH_take (i := 0) (oi := { dst := Option.some 77, op := Go.Op.move (Go.Operand.tmp 7), type := 23, pos := "laws.go:601", after := #[], guard := Option.none }) (v := ?v26) rfl (by kernel_rfl) (by kernel_rfl) (by kernel_rfl) (fun _ _ _ h => h) (Or.inl ⟨by rfl, ?hy26⟩) (by assumption) ?rest26
                case hy26 =>
                  intro w9 hSw
                  clear hSw
                  go_simp
                  first | done | with_reducible rfl
                (try simp only [Act.put]); (try simp only [List.setIfInBounds_toArray]); (try simp only [List.set_cons_succ]); (try simp only [List.set_cons_zero])
                refine wpAnyH_take (i := 1) (oi := { dst := Option.some 78, op := Go.Op.move (Go.Operand.tmp 8), type := 43, pos := "laws.go:601", after := #[], guard := Option.none }) (v := ?v27) rfl (by kernel_rfl) (by kernel_rfl) (by kernel_rfl) (fun _ _ _ h => h) (Or.inl ⟨by rfl, ?hy27⟩) (by assumption) ?rest27
                case hy27 =>
                  intro w9 hSw
                  clear hSw
                  go_simp
                  first | done | with_reducible rfl
                (try simp only [Act.put]); (try simp only [List.setIfInBounds_toArray]); (try simp only [List.set_cons_succ]); (try simp only [List.set_cons_zero])
                refine wpAnyH_take (i := 2) (oi := { dst := Option.some 79, op := Go.Op.move (Go.Operand.tmp 9), type := 3, pos := "laws.go:601", after := #[], guard := Option.none }) (v := ?v28) rfl (by kernel_rfl) (by kernel_rfl) (by kernel_rfl) (fun _ _ _ h => h) (Or.inl ⟨by rfl, ?hy28⟩) (by assumption) ?rest28
                case hy28 =>
                  intro w9 hSw
                  clear hSw
                  go_simp
                  first | done | with_reducible rfl
                (try simp only [Act.put]); (try simp only [List.setIfInBounds_toArray]); (try simp only [List.set_cons_succ]); (try simp only [List.set_cons_zero])
                refine wpAnyH_take (i := 3) (oi := { dst := Option.some 80, op := Go.Op.indexAddr 43 (Go.Operand.tmp 78) (Go.Operand.tmp 79), type := 0, pos := "laws.go:601", after := #[{ on := 1, ground := Go.Ground.data }, { on := 2, ground := Go.Ground.data }], guard := Option.none }) (v := ?v29) rfl (by kernel_rfl) (by kernel_rfl) (by kernel_rfl) (fun _ _ _ h => h) (Or.inl ⟨by rfl, ?hy29⟩) (by assumption) ?rest29
                case hy29 =>
                  intro w9 hSw
                  clear hSw
                  go_simp
                  first | done | with_reducible rfl
                (try simp only [Act.put]); (try simp only [List.setIfInBounds_toArray]); (try simp only [List.set_cons_succ]); (try simp only [List.set_cons_zero])
                refine wpAnyH_take (i := 4) (oi := { dst := Option.some 81, op := Go.Op.load 9 (Go.Operand.tmp 80), type := 9, pos := "laws.go:601", after := #[{ on := 3, ground := Go.Ground.data }], guard := Option.none }) (v := ?v30) rfl (by kernel_rfl) (by kernel_rfl) (by kernel_rfl) (fun _ _ _ h => h) (Or.inl ⟨by rfl, ?hy30⟩) (by assumption) ?rest30
                case hy30 =>
                  intro w9 hSw
                  obtain ⟨f0, f1⟩ := hSw
                  go_simp
                  first | done | with_reducible rfl
                (try simp only [Act.put]); (try simp only [List.setIfInBounds_toArray]); (try simp only [List.set_cons_succ]); (try simp only [List.set_cons_zero])
                refine wpAnyH_take (i := 5) (oi := { dst := Option.some 82, op := Go.Op.move (Go.Operand.tmp 4), type := 39, pos := "laws.go:601", after := #[], guard := Option.none }) (v := ?v31) rfl (by kernel_rfl) (by kernel_rfl) (by kernel_rfl) (fun _ _ _ h => h) (Or.inl ⟨by rfl, ?hy31⟩) (by assumption) ?rest31
                case hy31 =>
                  intro w9 hSw
                  clear hSw
                  go_simp
                  first | done | with_reducible rfl
                (try simp only [Act.put]); (try simp only [List.setIfInBounds_toArray]); (try simp only [List.set_cons_succ]); (try simp only [List.set_cons_zero])
                refine wpAnyH_take (i := 6) (oi := { dst := Option.some 83, op := Go.Op.move (Go.Operand.tmp 10), type := 3, pos := "laws.go:601", after := #[], guard := Option.none }) (v := ?v32) rfl (by kernel_rfl) (by kernel_rfl) (by kernel_rfl) (fun _ _ _ h => h) (Or.inl ⟨by rfl, ?hy32⟩) (by assumption) ?rest32
                case hy32 =>
                  intro w9 hSw
                  clear hSw
                  go_simp
                  first | done | with_reducible rfl
                (try simp only [Act.put]); (try simp only [List.setIfInBounds_toArray]); (try simp only [List.set_cons_succ]); (try simp only [List.set_cons_zero])
                refine wpAnyH_take (i := 7) (oi := { dst := Option.some 84, op := Go.Op.indexAddr 39 (Go.Operand.tmp 82) (Go.Operand.tmp 83), type := 0, pos := "laws.go:601", after := #[{ on := 5, ground := Go.Ground.data }, { on := 6, ground := Go.Ground.data }], guard := Option.none }) (v := ?v33) rfl (by kernel_rfl) (by kernel_rfl) (by kernel_rfl) (fun _ _ _ h => h) (Or.inl ⟨by rfl, ?hy33⟩) (by assumption) ?rest33
                case hy33 =>
                  intro w9 hSw
                  clear hSw
                  go_simp
                  first | done | with_reducible rfl
                (try simp only [Act.put]); (try simp only [List.setIfInBounds_toArray]); (try simp only [List.set_cons_succ]); (try simp only [List.set_cons_zero])
                refine wpAnyH_take (i := 8) (oi := { dst := Option.some 85, op := Go.Op.load 3 (Go.Operand.tmp 84), type := 3, pos := "laws.go:601", after := #[{ on := 7, ground := Go.Ground.data }], guard := Option.none }) (v := ?v34) rfl (by kernel_rfl) (by kernel_rfl) (by kernel_rfl) (fun _ _ _ h => h) (Or.inl ⟨by rfl, ?hy34⟩) (by assumption) ?rest34
                case hy34 =>
                  intro w9 hSw
                  obtain ⟨f0, f1⟩ := hSw
                  go_simp
                  first | done | with_reducible rfl
                (try simp only [Act.put]); (try simp only [List.setIfInBounds_toArray]); (try simp only [List.set_cons_succ]); (try simp only [List.set_cons_zero])
                refine wpAnyH_ready (rs := [9, 13]) (by kernel_rfl) (by simp) ?_
                refine AllReadyH.cons (o := { dst := Option.some 86, op := Go.Op.call { callee := Go.Callee.value (Go.Operand.func 29), args := #[Go.Operand.tmp 77, Go.Operand.tmp 81, Go.Operand.tmp 85], argTypes := #[23, 9, 3] }, type := 34, pos := "laws.go:601", after := #[{ on := 0, ground := Go.Ground.data }, { on := 4, ground := Go.Ground.data }, { on := 8, ground := Go.Ground.data }], guard := Option.none }) rfl (fun K hK => ?_) (AllReadyH.cons (o := { dst := Option.some 13, op := Go.Op.alloc 33, type := 0, pos := "laws.go:601", after := #[], guard := Option.none }) rfl (fun K hK => ?_) AllReadyH.nil)
                · go_simp
                  (go_at_call 29; refine Calls.mono (HCA2.out _ (by first | exact HB9.out | exact bel2 (Below.refl wd.heap.size wd) (by rfl) (by rfl) (by rfl) (by rfl))) ?_; rintro e w9 ⟨rfl, hb9⟩; have HB9 := Lib.hid hb9; clear hb9)
                  (try go_wp2_with fail)
                  refine hK.out _ _ (HSD.out _ HB9.out) (fun hHeld => ?_)
                  clear hK K
                  (try simp only [Act.put]); (try simp only [List.setIfInBounds_toArray]); (try simp only [List.set_cons_succ]); (try simp only [List.set_cons_zero])
                  refine wpAnyH_take (i := 10) (oi := { dst := Option.some 76, op := Go.Op.move (Go.Operand.tmp 86), type := 34, pos := "laws.go:601", after := #[{ on := 9, ground := Go.Ground.data }], guard := Option.none }) (v := ?v18) rfl (by kernel_rfl) (by kernel_rfl) (by kernel_rfl) (fun _ _ _ h => h) (Or.inl ⟨by rfl, ?hy18⟩) (by assumption) ?rest18
                  case hy18 =>
                    intro w9 hSw
                    clear hSw
                    go_simp
                    first | done | with_reducible rfl
                  (try simp only [Act.put]); (try simp only [List.setIfInBounds_toArray]); (try simp only [List.set_cons_succ]); (try simp only [List.set_cons_zero])
                  refine wpAnyH_take (i := 11) (oi := { dst := Option.some 87, op := Go.Op.extract (Go.Operand.tmp 76) 0, type := 33, pos := "laws.go:601", after := #[{ on := 10, ground := Go.Ground.data }], guard := Option.none }) (v := ?v19) rfl (by kernel_rfl) (by kernel_rfl) (by kernel_rfl) (fun _ _ _ h => h) (Or.inl ⟨by rfl, ?hy19⟩) (by assumption) ?rest19
                  case hy19 =>
                    intro w9 hSw
                    clear hSw
                    go_simp
                    first | done | with_reducible rfl
                  (try simp only [Act.put]); (try simp only [List.setIfInBounds_toArray]); (try simp only [List.set_cons_succ]); (try simp only [List.set_cons_zero])
                  refine wpAnyH_take (i := 12) (oi := { dst := Option.some 88, op := Go.Op.extract (Go.Operand.tmp 76) 1, type := 4, pos := "laws.go:601", after := #[{ on := 10, ground := Go.Ground.data }, { on := 14, ground := Go.Ground.gcOnly Go.Departure.lateStores }], guard := Option.none }) (v := ?v20) rfl (by kernel_rfl) (by kernel_rfl) (by kernel_rfl) (fun _ _ _ h => h) (Or.inl ⟨by rfl, ?hy20⟩) (by assumption) ?rest20
                  case hy20 =>
                    intro w9 hSw
                    clear hSw
                    go_simp
                    first | done | with_reducible rfl
                  (try simp only [Act.put]); (try simp only [List.setIfInBounds_toArray]); (try simp only [List.set_cons_succ]); (try simp only [List.set_cons_zero])
                  have HBA := Lib.hid (HB9.out.alloc HB9.out.size (.cells #[.string ⟨#[]⟩, .int .i64 0, .bool false, .int .i64 0] 33))
                  refine wpAnyH_ready (rs := [13]) (by kernel_rfl) (by simp) ?_
                  refine AllReadyH.cons (o := { dst := Option.some 13, op := Go.Op.alloc 33, type := 0, pos := "laws.go:601", after := #[], guard := Option.none }) rfl (fun K hK => ?_) AllReadyH.nil
                  go_simp
                  refine hK.out _ _ (HSD.out _ HBA.out) (fun hHeld => ?_)
                  clear hK K
                  (try simp only [Act.put]); (try simp only [List.setIfInBounds_toArray]); (try simp only [List.set_cons_succ]); (try simp only [List.set_cons_zero])
                  have HBC := Lib.hid (box_of w9 x0 x1 x2 x3 HB9.out)
                  refine wpAnyH_ready (rs := [14]) (by kernel_rfl) (by simp) ?_
                  refine AllReadyH.cons (o := { dst := Option.none, op := Go.Op.store 33 (Go.Operand.tmp 13) (Go.Operand.tmp 87), type := 0, pos := "laws.go:601", after := #[{ on := 13, ground := Go.Ground.data }, { on := 11, ground := Go.Ground.data }, { on := 9, ground := Go.Ground.chain }, { on := 0, ground := Go.Ground.phase }, { on := 1, ground := Go.Ground.phase }, { on := 2, ground := Go.Ground.phase }, { on := 3, ground := Go.Ground.phase }, { on := 4, ground := Go.Ground.phase }, { on := 5, ground := Go.Ground.phase }, { on := 6, ground := Go.Ground.phase }, { on := 7, ground := Go.Ground.phase }, { on := 8, ground := Go.Ground.phase }, { on := 9, ground := Go.Ground.phase }, { on := 10, ground := Go.Ground.phase }, { on := 11, ground := Go.Ground.phase }, { on := 12, ground := Go.Ground.textOnly Go.Departure.lateStores }, { on := 13, ground := Go.Ground.phase }], guard := Option.none }) rfl (fun K hK => ?_) AllReadyH.nil
                  go_simp
                  refine hK.out _ _ (HSD.out _ HBC.out.2) (fun hHeld => ?_)
                  clear hK K
                  (try simp only [Act.put]); (try simp only [List.setIfInBounds_toArray]); (try simp only [List.set_cons_succ]); (try simp only [List.set_cons_zero])
                  refine wpAnyH_take (i := 15) (oi := { dst := Option.some 14, op := Go.Op.assign (Go.Operand.tmp 88), type := 4, pos := "laws.go:601", after := #[{ on := 12, ground := Go.Ground.data }, { on := 14, ground := Go.Ground.chain }, { on := 0, ground := Go.Ground.phase }, { on := 1, ground := Go.Ground.phase }, { on := 2, ground := Go.Ground.phase }, { on := 3, ground := Go.Ground.phase }, { on := 4, ground := Go.Ground.phase }, { on := 5, ground := Go.Ground.phase }, { on := 6, ground := Go.Ground.phase }, { on := 7, ground := Go.Ground.phase }, { on := 8, ground := Go.Ground.phase }, { on := 9, ground := Go.Ground.phase }, { on := 10, ground := Go.Ground.phase }, { on := 11, ground := Go.Ground.phase }, { on := 12, ground := Go.Ground.phase }, { on := 13, ground := Go.Ground.phase }, { on := 14, ground := Go.Ground.phase }], guard := Option.none }) (v := ?v21) rfl (by kernel_rfl) (by kernel_rfl) (by kernel_rfl) (fun _ _ _ h => h) (Or.inl ⟨by rfl, ?hy21⟩) (by assumption) ?rest21
                  case hy21 =>
                    intro w9 hSw
                    clear hSw
                    go_simp
                    first | done | with_reducible rfl
                  (try simp only [Act.put]); (try simp only [List.setIfInBounds_toArray]); (try simp only [List.set_cons_succ]); (try simp only [List.set_cons_zero])
                  refine wpAnyH_done (by kernel_rfl) ?_ _
                  go_wp2_with fail
                  go_meet
                  exact ⟨_, rfl, rfl, Lib.hid ⟨HBC.out.1, HBC.out.2⟩⟩
                · have HBA := Lib.hid (below_blank wd)
                  go_simp
                  refine hK.out _ _ (HSD.out _ (by exact bel2 HBA.out (by rfl) (by rfl) (by rfl) (by rfl))) (fun hHeld => ?_)
                  clear hK K
                  (try simp only [Act.put]); (try simp only [List.setIfInBounds_toArray]); (try simp only [List.set_cons_succ]); (try simp only [List.set_cons_zero])
                  refine wpAnyH_ready (rs := [9]) (by kernel_rfl) (by simp) ?_
                  refine AllReadyH.cons (o := { dst := Option.some 86, op := Go.Op.call { callee := Go.Callee.value (Go.Operand.func 29), args := #[Go.Operand.tmp 77, Go.Operand.tmp 81, Go.Operand.tmp 85], argTypes := #[23, 9, 3] }, type := 34, pos := "laws.go:601", after := #[{ on := 0, ground := Go.Ground.data }, { on := 4, ground := Go.Ground.data }, { on := 8, ground := Go.Ground.data }], guard := Option.none }) rfl (fun K hK => ?_) AllReadyH.nil
                  go_simp
                  go_at_call 29
                  refine Calls.mono HCB2.out ?_
                  rintro e w9 ⟨rfl, hbx, hb9⟩
                  have HB9 := Lib.hid hb9
                  have HBX := Lib.hid hbx
                  obtain ⟨q0, q1, q2, q3⟩ := hbx.cells
                  have r0 := frozen_of_row _ _ 0 _ _ hbx
                  have r1 := frozen_of_row _ _ 1 _ _ hbx
                  have r2 := frozen_of_row _ _ 2 _ _ hbx
                  have r3 := frozen_of_row _ _ 3 _ _ hbx
                  clear hbx hb9
                  (try go_wp2_with fail)
                  refine hK.out _ _ (HSD.out _ HB9.out) (fun hHeld => ?_)
                  clear hK K
                  (try simp only [Act.put]); (try simp only [List.setIfInBounds_toArray]); (try simp only [List.set_cons_succ]); (try simp only [List.set_cons_zero])
                  refine wpAnyH_take (i := 10) (oi := { dst := Option.some 76, op := Go.Op.move (Go.Operand.tmp 86), type := 34, pos := "laws.go:601", after := #[{ on := 9, ground := Go.Ground.data }], guard := Option.none }) (v := ?v22) rfl (by kernel_rfl) (by kernel_rfl) (by kernel_rfl) (fun _ _ _ h => h) (Or.inl ⟨by rfl, ?hy22⟩) (by assumption) ?rest22
                  case hy22 =>
                    intro w9 hSw
                    clear hSw
                    go_simp
                    first | done | with_reducible rfl
                  (try simp only [Act.put]); (try simp only [List.setIfInBounds_toArray]); (try simp only [List.set_cons_succ]); (try simp only [List.set_cons_zero])
                  refine wpAnyH_take (i := 11) (oi := { dst := Option.some 87, op := Go.Op.extract (Go.Operand.tmp 76) 0, type := 33, pos := "laws.go:601", after := #[{ on := 10, ground := Go.Ground.data }], guard := Option.none }) (v := ?v23) rfl (by kernel_rfl) (by kernel_rfl) (by kernel_rfl) (fun _ _ _ h => h) (Or.inl ⟨by rfl, ?hy23⟩) (by assumption) ?rest23
                  case hy23 =>
                    intro w9 hSw
                    clear hSw
                    go_simp
                    first | done | with_reducible rfl
                  (try simp only [Act.put]); (try simp only [List.setIfInBounds_toArray]); (try simp only [List.set_cons_succ]); (try simp only [List.set_cons_zero])
                  refine wpAnyH_take (i := 12) (oi := { dst := Option.some 88, op := Go.Op.extract (Go.Operand.tmp 76) 1, type := 4, pos := "laws.go:601", after := #[{ on := 10, ground := Go.Ground.data }, { on := 14, ground := Go.Ground.gcOnly Go.Departure.lateStores }], guard := Option.none }) (v := ?v24) rfl (by kernel_rfl) (by kernel_rfl) (by kernel_rfl) (fun _ _ _ h => h) (Or.inl ⟨by rfl, ?hy24⟩) (by assumption) ?rest24
                  case hy24 =>
                    intro w9 hSw
                    clear hSw
                    go_simp
                    first | done | with_reducible rfl
                  (try simp only [Act.put]); (try simp only [List.setIfInBounds_toArray]); (try simp only [List.set_cons_succ]); (try simp only [List.set_cons_zero])
                  have HBC := Lib.hid (box_set x0 x1 x2 x3 HB9.out HBX.out)
                  refine wpAnyH_ready (rs := [14]) (by kernel_rfl) (by simp) ?_
                  refine AllReadyH.cons (o := { dst := Option.none, op := Go.Op.store 33 (Go.Operand.tmp 13) (Go.Operand.tmp 87), type := 0, pos := "laws.go:601", after := #[{ on := 13, ground := Go.Ground.data }, { on := 11, ground := Go.Ground.data }, { on := 9, ground := Go.Ground.chain }, { on := 0, ground := Go.Ground.phase }, { on := 1, ground := Go.Ground.phase }, { on := 2, ground := Go.Ground.phase }, { on := 3, ground := Go.Ground.phase }, { on := 4, ground := Go.Ground.phase }, { on := 5, ground := Go.Ground.phase }, { on := 6, ground := Go.Ground.phase }, { on := 7, ground := Go.Ground.phase }, { on := 8, ground := Go.Ground.phase }, { on := 9, ground := Go.Ground.phase }, { on := 10, ground := Go.Ground.phase }, { on := 11, ground := Go.Ground.phase }, { on := 12, ground := Go.Ground.textOnly Go.Departure.lateStores }, { on := 13, ground := Go.Ground.phase }], guard := Option.none }) rfl (fun K hK => ?_) AllReadyH.nil
                  go_simp
                  refine hK.out _ _ (HSD.out _ HBC.out.2) (fun hHeld => ?_)
                  clear hK K
                  (try simp only [Act.put]); (try simp only [List.setIfInBounds_toArray]); (try simp only [List.set_cons_succ]); (try simp only [List.set_cons_zero])
                  refine wpAnyH_take (i := 15) (oi := { dst := Option.some 14, op := Go.Op.assign (Go.Operand.tmp 88), type := 4, pos := "laws.go:601", after := #[{ on := 12, ground := Go.Ground.data }, { on := 14, ground := Go.Ground.chain }, { on := 0, ground := Go.Ground.phase }, { on := 1, ground := Go.Ground.phase }, { on := 2, ground := Go.Ground.phase }, { on := 3, ground := Go.Ground.phase }, { on := 4, ground := Go.Ground.phase }, { on := 5, ground := Go.Ground.phase }, { on := 6, ground := Go.Ground.phase }, { on := 7, ground := Go.Ground.phase }, { on := 8, ground := Go.Ground.phase }, { on := 9, ground := Go.Ground.phase }, { on := 10, ground := Go.Ground.phase }, { on := 11, ground := Go.Ground.phase }, { on := 12, ground := Go.Ground.phase }, { on := 13, ground := Go.Ground.phase }, { on := 14, ground := Go.Ground.phase }], guard := Option.none }) (v := ?v25) rfl (by kernel_rfl) (by kernel_rfl) (by kernel_rfl) (fun _ _ _ h => h) (Or.inl ⟨by rfl, ?hy25⟩) (by assumption) ?rest25
                  case hy25 =>
                    intro w9 hSw
                    clear hSw
                    go_simp
                    first | done | with_reducible rfl
                  (try simp only [Act.put]); (try simp only [List.setIfInBounds_toArray]); (try simp only [List.set_cons_succ]); (try simp only [List.set_cons_zero])
                  refine wpAnyH_done (by kernel_rfl) ?_ _
                  go_wp2_with fail
                  go_meet
                  exact ⟨_, rfl, rfl, Lib.hid ⟨HBC.out.1, HBC.out.2⟩⟩
              case rest =>
                obtain ⟨bz, rfl, rfl, hq⟩ := hcut
                obtain ⟨p0, p1, p2, p3⟩ := (HX1.out.keep hq.out.2).cells
                obtain ⟨q0, q1, q2, q3⟩ := hq.out.1.cells
                have HBC := Lib.hid (HBD.out.trans (hq.out.2.mono HBD.out.size))
                have e0 : (x0.toList == x0.toList) = true := by simp
                clear hq hx hbs
                cases b
                all_goals
                  go_wp2
                  go_roundw
                  case rel => exact ⟨m + 1, by omega, by go_num, HBC.out⟩
                  case measure => simp [intOf]; omega
          · have hme : m = times.length := by omega
            subst hme
            go_wp2
            go_roundw
            case rel => exact ⟨k + 1, by omega, by go_num, HBL.out⟩
            case measure => simp [intOf]; omega
      · have hke : k = ks.length := by omega
        subst hke
        have b_ := HBO.out
        have HKO := Lib.hid ((HK.out.below b_ (Nat.le_refl _)).more b_.size)
        have HYO := Lib.hid (HY.out.below b_)
        replace HB := Lib.hid (HB.out.trans (b_.mono HB.out.size))
        clear b_ HBO
        go_wp2_with fail
        go_at_call 35
        refine Calls.mono (HKI.out wr HYO.out) ?_
        rintro e w8 ⟨kv_, rfl, ok_, b_⟩
        obtain ⟨A8, c8, hkv_, -, -, sk_⟩ := ok_.parts
        subst hkv_
        have HSK := Lib.hid sk_
        replace HKO := Lib.hid ((HKO.out.below b_ (Nat.le_refl _)).more b_.size)
        replace HB := Lib.hid (HB.out.trans (b_.mono HB.out.size))
        clear ok_ sk_ b_
        go_wp2_with fail
        go_at_call 36
        refine Calls.mono (samesTop (l := ks) HSK.out HKO.out (by omega)) ?_
        rintro e w9 ⟨rfl, b_⟩
        replace HB := Lib.hid (HB.out.trans (b_.mono HB.out.size))
        clear b_
        have hle := HLE.out
        have hle2 : (xs.length : Int) ≤ (y.length : Int) := by omega
        go_wp2
        go_ret
        exact ⟨rfl, HB.out⟩
  · rw [hrun] at HC
    go_wp2_with fail
    go_at_call 24
    refine Calls.mono (HC.out) ?_
    rintro e w5 ⟨rfl, b_⟩
    replace HF := Lib.hid (HF.out.below b_)
    replace HN := Lib.hid (HN.out.below b_)
    replace HX := Lib.hid (HX.out.below b_)
    replace HB := Lib.hid (HB.out.trans (b_.mono HB.out.size))
    clear b_
    clear HC hrun
    go_wp2_with fail
    go_at_call 34
    refine Calls.mono (trimS_few HF.out HN.out bot) ?_
    rintro e w6 ⟨A4, c4, rfl, hf_, b_⟩
    replace HF := Lib.hid (HF.out.below b_)
    replace HN := Lib.hid (HN.out.below b_)
    replace HX := Lib.hid (HX.out.below b_)
    replace HB := Lib.hid (HB.out.trans (b_.mono HB.out.size))
    have HM := Lib.hid hf_
    clear hf_ b_
    go_wp2_with fail
    go_at_call 26
    refine Calls.mono (same_few HX.out HM.out) ?_
    rintro e w7 ⟨rfl, b_⟩
    replace HF := Lib.hid (HF.out.below b_)
    replace HN := Lib.hid (HN.out.below b_)
    replace HX := Lib.hid (HX.out.below b_)
    replace HM := Lib.hid (HM.out.below b_)
    replace HB := Lib.hid (HB.out.trans (b_.mono HB.out.size))
    clear b_
    go_wp2
    go_ret
    exact ⟨rfl, HB.out⟩

end Go.Proofs.Ytjjalagmlbaafaa.W
