/-
  RunJoin, the program's.
-/
import Derived.Test.YtfpgjkanmanajaaGH
import Derived.Test.YtfpgjkanmanajaaE5
import Derived.RangeFuncBound
import Derived.Shelf.Abstract
import Derived.Maps.AppendAt
import Derived.Deep.AppendLies
namespace Go.Proofs.Ytfpgjkanmanajaa.W
open Go.RowKit K R
attribute [local go_sem] Oper.semAt_some

theorem box_from {B0 b : Nat} {k : ByteArray} {v : Int} {g : Bool} {t : Int} : OwnFrom B0 (fun (_ : Unit) W => Box W b k v g t) := fun _ X Y row hs hg hr =>
  (hg.block b (lt_heap hs) (fun e' => by
    obtain ⟨-, o, ho, hc⟩ := hr b e'.symm
    rw [show X.heap[b]? = _ from hs] at ho
    cases ho
    cases hc)).trans hs
theorem size_from {β : Type} {B0 n : Nat} : OwnFrom B0 (fun (_ : β) W => n ≤ W.heap.size) := fun _ _ _ _ hs hg _ => Nat.le_trans hs hg.size
/-- append of one entry, inside a fence: the new slice written out -/
theorem app_enIn {F : Fence} {n : Nat} {ops : Array Oper} {rest : List Oper} {o : Oper} {a : Act} {Q : Exit → Act → World → Prop} (hgd : o.guard = none) (s x : Operand)
    (ho : o.op = .call { callee := .builtin .append, args := #[s, x], argTypes := #[23, 23] })
    (w : World) (base : Nat) (v : Value) (l : List En) (hs : a.eval s = v) (hown : OwnE w base v l) (b cc : Nat) (e : En)
    (hx : a.eval x = .slice (some ⟨b, 0, none⟩) 1 cc) (hb : Box w b e.key e.val e.gone e.time)
    (hl : l.length ≤ 1000000) (hbase : base ≤ w.heap.size)
    (h : ∀ g cap w', OwnE w' base (.slice (some ⟨g, 0, none⟩) (l.length + 1) cap) (l ++ [e]) → w.grownBy w' v.ownBlock → (v.ownBlock = some g ∨ g = w.heap.size) → g < w'.heap.size → wpListIn F n Try.prog ops Q rest (a.put o.dst (.slice (some ⟨g, 0, none⟩) (l.length + 1) cap)) w') : wpListIn F n Try.prog ops Q (o :: rest) a w := by
  obtain ⟨i0, hi, hz0, hz1, hz2⟩ := info_parts ent_info
  refine wpListIn_plain hgd fun K hK => ?_
  obtain ⟨g, cap, w', hr, h2, h3, h4, h5⟩ := run_append_lies (P := Try.prog) w 23 o.type base _ i0 (.agg #[.string ⟨#[]⟩, .int .i64 0, .bool false, .int .i64 0]) 4 40 Try.underlying23 hi hz0 hz1 hz2 rfl (by decide) v l.length (cellsE l) hown ⟨b, 0, none⟩ 1 cc (enC e) rfl (World.news_of_block hb) (by
    intro u hu
    simp [enC] at hu
    rcases hu with rfl | rfl | rfl | rfl <;> rfl) (by decide) (by unfold maxLen; omega) (by omega) hbase _ rfl
  unfold Oper.wpIn
  refine ⟨by simp [Oper.about, ho, resolve, Target.leads, Sem.run_pure], ?_⟩
  rw [Oper.semAt_plain F _ _ (by rw [ho]; intro c hc'; cases hc')]
  simp [execOp, ho, resolve, invoke, builtin, hs, hx, hr, Result.andThen]
  refine hK _ _ (h g cap w' ?_ h3 h4 h5)
  unfold OwnE
  rw [cellsE_snoc, List.length_append, List.length_singleton]
  exact h2

theorem nilJ (w : World) (base : Nat) : OwnE w base (.slice none 0 0) [] := ⟨rfl, .inl ⟨rfl, rfl⟩⟩

set_option maxHeartbeats 8000000 in
set_option maxRecDepth 100000 in
theorem runJoinI (w : World) (Bw na ca nb cb : Nat) (A1 A2 : Option Addr) (la lb : List En) (hr : Ents w Bw A1 na la) (hr2 : Ents w Bw A2 nb lb) (hB0 : Bw ≤ w.heap.size) (hca : na ≤ ca) (hn1 : na ≤ 1048576) (hn2 : nb ≤ 1048576) (hf : ∀ e ∈ la, e.key.size ≤ maxLen) (hf2 : ∀ e ∈ lb, e.key.size ≤ maxLen) :
    Calls Try.prog 26 #[.slice A1 na ca, .slice A2 nb cb] w (JoinA w la lb) := by
  have hlen := hr.len
  subst hlen
  have hlen := hr2.len
  subst hlen
  have HR := Lib.hid hr
  have HR2 := Lib.hid hr2
  have HF := Lib.hid hf
  have HF2 := Lib.hid hf2
  clear hr hr2 hf hf2
  rcases Bool.eq_false_or_eq_true (runB la) with ha | ha
  · have HA := Lib.hid (show Calls Try.prog 24 #[.slice A1 la.length ca] w fun e w' => e = .returned (.bool true) ∧ Below w.heap.size w w' from by rw [← ha]; exact runI w Bw la.length ca A1 la HR.out hB0 (by unfold maxLen; omega) HF.out)
    have l1 := (run_iff.mp ha).1
    rcases Bool.eq_false_or_eq_true (runB lb) with hb | hb
    · have HBB := Lib.hid (show ∀ W, Below w.heap.size w W → Calls Try.prog 24 #[.slice A2 lb.length cb] W fun e w' => e = .returned (.bool true) ∧ Below W.heap.size W w' from fun W hW => by rw [← hb]; exact runI W Bw lb.length cb A2 lb (HR2.out.below hW hB0) (Nat.le_trans hB0 hW.size) (by unfold maxLen; omega) HF2.out)
      have l2 := (run_iff.mp hb).1
      have HAB := Lib.hid (show joinB la lb = runB (joinL la lb) by unfold joinB; rw [ha, hb]; rfl)
      clear ha hb
      refine (callsIn_wide (n := 5)).1 ?_
      refine callsIn_of_wp_marks Try.func26 rfl trivial ?_ rfl
      simp only [Try.ntmps26, List.size_toArray, List.length_cons, List.length_nil, Nat.reduceAdd, Nat.reduceSub, Array.replicate_succ, Array.replicate_zero, List.push_toArray, List.append_toArray, List.nil_append, List.cons_append]
      refine wpIn_wide.2 ?_
      go_wp2_with fail
      go_at_call 24
      refine HA.out.mono ?_
      rintro e w1 ⟨rfl, b1⟩
      have HB1 := Lib.hid b1
      clear b1
      go_wp2_with fail
      go_at_call 24
      refine Calls.mono (HBB.out w1 HB1.out) ?_
      rintro e w2 ⟨rfl, b2⟩
      have HB2 := Lib.hid (HB1.out.trans (b2.mono HB1.out.size))
      clear b2
      have HMG := Lib.hid (mergedI (w2.alloc (.cells #[.slice none 0 0] 23)) la.length ca lb.length cb A1 A2)
      go_wp2_with fail
      go_at_call 66
      refine Calls.mono HMG.out ?_
      rintro e w3 ⟨rfl, hw3⟩
      have HW3 := Lib.hid hw3
      clear hw3
      go_wp2_with fail
      refine (wpIn_wide (n := 5)).1 ?_
      rename_i K hK
      have HK := Lib.hid hK
      clear hK
      obtain ⟨B, hB⟩ : ∃ B, B = w2.heap.size := ⟨_, rfl⟩
      have hwB : w.heap.size ≤ B := by rw [hB]; exact HB2.out.size
      have hsz : w3.heap.size = B + 3 := by rw [HW3.out, hB]; simp
      have hb3 : Below w2.heap.size w2 w3 := by
        rw [HW3.out]
        exact (((Below.refl _ _).alloc (Nat.le_refl _) _).alloc (by simp) _).alloc (by simp; omega) _
      have HB3 := Lib.hid (HB2.out.trans (hb3.mono HB2.out.size))
      have hx0 : Boxed w3 B 23 (.slice none 0 0) := by rw [HW3.out, hB]; exact ((Boxed.new w2 23 (.slice none 0 0)).alloc _).alloc _
      have hx1 : w3.heap[B + 1]? = some (.cells #[.slice A1 la.length ca] 23) := by
        have h := (Boxed.new (w2.alloc (.cells #[.slice none 0 0] 23)) 23 (.slice A1 la.length ca)).alloc (.cells #[.slice A2 lb.length cb] 23)
        rw [World.size_alloc, ← hB, ← HW3.out] at h
        exact h
      have hx2 : w3.heap[B + 2]? = some (.cells #[.slice A2 lb.length cb] 23) := by
        have h := Boxed.new ((w2.alloc (.cells #[.slice none 0 0] 23)).alloc (.cells #[.slice A1 la.length ca] 23)) 23 (.slice A2 lb.length cb)
        rw [World.size_alloc, World.size_alloc, ← hB, ← HW3.out] at h
        exact h
      have hrow0 : rowAt w3 B = none := by unfold rowAt; rw [hx0.cell]
      have hra : Ents w3 B A1 la.length la := (HR.out.below HB3.out hB0).more (by omega)
      have hrb : Ents w3 B A2 lb.length lb := (HR2.out.below HB3.out hB0).more (by omega)
      rw [← hB]
      have HQ := Lib.hid (show ∀ (W : World) (A : Option Addr) (c : Nat), Ents W W.heap.size A (joinL la lb).length (joinL la lb) → Calls Try.prog 24 #[.slice A (joinL la lb).length c] W fun e w' => e = .returned (.bool (joinB la lb)) ∧ Below W.heap.size W w' from fun W A c h => by
        rw [HAB.out]
        exact runI W W.heap.size _ c A _ h (Nat.le_refl _) (by rw [join_len]; unfold maxLen; omega) (fun e he => (mem_join.mp he).elim (HF.out e) (HF2.out e)))
      clear HW3 HMG HA HBB HR HR2 HF HF2 hb3 hB
      obtain ⟨R, hR⟩ : ∃ R, R = JoinA w la lb := ⟨_, rfl⟩
      rw [← hR] at HK ⊢
      have HRR := Lib.hid hR
      clear hR
      refine wpIn_rangeFunc_ownH (w0 := w3) (Kp := KpM B) rfl (by decide) (gf := 93) (lb := #[.pointer (some ⟨B + 2, 0, none⟩), .pointer (some ⟨B + 1, 0, none⟩)]) rfl trivial (enters_of Try.func93 (by kernel_rfl) rfl)
        (merged_stops 4 (by decide) B la.length ca lb.length cb A1 A2 la lb w3 hx1 hx2 hra hrb hca (by omega) (by omega) hrow0) kpM_t (kpM_b (by omega)) (Below.refl _ _) (fun _ => rfl)
        (fun pre W => (∃ v, Boxed W B 23 v ∧ W.ownsRow w.heap.size 33 4 v pre.length (cellsE pre) ∧ (∀ r, v.ownBlock = some r → B + 2 < r)) ∧ (Below w.heap.size w W ∧ B + 3 ≤ W.heap.size))
        (fun _ _ _ => False)
        (OwnFrom.and (Own.from (holdsRow_own w.heap.size B 23 33 4 (fun pre => pre.length) (fun pre => cellsE pre) (fun _ v => ∀ r, v.ownBlock = some r → B + 2 < r)) _) (OwnFrom.and (ownFrom_below (Nat.le_refl _) (by omega)) size_from))
        (fun _ _ _ _ _ hs _ _ => hs)
        ⟨⟨_, hx0, nilJ _ _, fun r h => by simp [Value.ownBlock] at h⟩, HB3.out, by omega⟩
        (fun x a' W => ∃ Bx, B + 3 ≤ Bx ∧ Box W Bx x.key x.val x.gone x.time ∧ a' = { tmps := #[Value.slice A1 la.length ca, Value.slice A2 lb.length cb, undef, undef, Value.slice none 0 0,
          Value.bool false, Value.pointer (some ⟨B, 0, none⟩), Value.pointer (some ⟨Bx, 0, none⟩),
          Value.slice A1 la.length ca, Value.bool true, Value.bool false, Value.bool false, Value.slice A2 lb.length cb,
          Value.bool true, Value.bool false, Value.bool false, Value.slice A1 la.length ca, Value.slice A2 lb.length cb,
          mergedV (B + 1), enV x, undef, undef, undef, undef, undef, undef, undef, undef], defers := [] })
        (fun x a' _ X Y row hs hg hr => by obtain ⟨Bx, h1, h2, h3⟩ := hs; exact ⟨Bx, h1, box_from () X Y row h2 hg hr, h3⟩)
        ?assign ?body ?done ?stop
      case assign =>
        rintro l pre x W K1 ⟨⟨v, hv, hrow, hgt⟩, hBl, hS⟩ hK1
        have HK1 := Lib.hid hK1
        clear hK1 HK HQ
        obtain ⟨x0, x1, x2, x3⟩ := x
        simp only [enV]
        gi_wp2
        have hK1 := HK1.out
        exact hK1 _ _ ((KeepsOthers.alloc _ _).from _) (KpM.of_below ((Below.refl _ W).alloc (Nat.le_refl _) _) (by omega)) ⟨⟨v, hv.alloc _, World.ownsRow.alloc hrow _, hgt⟩, hBl.alloc hBl.size _, by simp; omega⟩ ⟨W.heap.size, hS, Box.new W _ _ _ _, rfl⟩
      case body =>
        rintro l pre x a' W hl ⟨r, hr⟩ ⟨⟨v, hv, hrow, hgt⟩, hBl, hS⟩ ⟨Bx, hBx, bX, rfl⟩ hlt
        have hc := hv.cell
        obtain ⟨e0, e1, e2, e3⟩ := bX.cells
        have HOW := Lib.hid (show OwnE W w.heap.size v pre from hrow)
        obtain ⟨x0, x1, x2, x3⟩ := x
        have HV := Lib.hid hv
        have HGT := Lib.hid hgt
        have HBL := Lib.hid hBl
        clear HK HQ hv hrow hgt hBl bX hr hx0 hx1 hx2 hra hrb hrow0
        simp only [enV] at e0 e1 e2 e3 ⊢
        have hpre : pre.length ≤ 80 := by omega
        gi_wp2_with (gi_at_builtin; refine app_enIn rfl (.tmp 20) (.tmp 22) rfl (W.alloc (.cells #[.string x0, .int .i64 x1, .bool x2, .int .i64 x3] 33)) w.heap.size v pre rfl (World.ownsRow.alloc HOW.out _) W.heap.size 1 ⟨x0, x1, x2, x3⟩ rfl (Box.new _ _ _ _ _) (by omega) (by simp; omega) ?_; intro g cap w1 hown1 hgrow1 hat1 hlt1; obtain ⟨hv1, hv2, hr2, hk2, hb2⟩ := HV.out.appended (by decide) HOW.out HBL.out.size hwB hown1 hgrow1; have HOW1 := Lib.hid hown1; have HGR1 := Lib.hid hgrow1; have HAT1 := Lib.hid hat1; have HLT1 := Lib.hid hlt1; have hc1 := hv1.cell; have hf1 := hv1.frozen; have HV1 := Lib.hid hv1; have HV2 := Lib.hid hv2; have HR2 := Lib.hid hr2; have HK2 := Lib.hid hk2; have HB2' := Lib.hid hb2; clear hown1 hgrow1 hat1 hlt1 hv1 hv2 hr2 hk2 hb2)
        refine ⟨HK2.out.from _, ?_, ⟨_, HV2.out, ?_, ?_⟩, HBL.out.trans HB2'.out, ?_⟩
        · have hg0 : W.grownBy w1 v.ownBlock := (World.grownBy_alloc W _ _).trans HGR1.out
          refine kpM_app hg0 (fun r h => by have := HGT.out r h; omega) (by omega) (fun r h => ?_) rfl ?_ HLT1.out ?_
          · have hc := HV.out.cell
            unfold rowAt
            rw [hc]
            cases v with
            | slice A n c =>
              cases A with
              | none => simp [Value.ownBlock] at h
              | some ad => simpa [Value.ownBlock] using h
            | _ => simp [Value.ownBlock] at h
          · rcases HAT1.out with h | h
            · exact .inl h
            · exact .inr (by rw [h]; simp)
          · exact ⟨_, _, HV1.out, by simp⟩
        · have h := HR2.out
          exact h
        · intro r h
          simp [Value.ownBlock] at h
          subst h
          rcases HAT1.out with h | h
          · exact HGT.out _ h
          · rw [h]; simp; omega
        · have h := HB2'.out.size
          omega
      case done =>
        rintro D ys W hD rfl ⟨⟨v, hv, hrow, hgt⟩, hBl, hS⟩ hKD
        have hown : OwnE W w.heap.size v (joinL la lb) := hrow
        obtain ⟨A3, c3, hv3, -, -, e3⟩ := ownE_parts hown
        subst hv3
        have hc := hv.cell
        have HV := Lib.hid hv
        have HO := Lib.hid hown
        have HBW := Lib.hid hBl
        have HKD := Lib.hid hKD
        have HR := Lib.hid (HQ.out W A3 c3 e3)
        refine HK.out _ _ ?_
        clear HK HQ hv hrow hgt hBl hKD hown e3 hx0 hx1 hx2 hra hrb hrow0
        go_wp2_with fail
        go_at_call 24
        refine Calls.mono HR.out ?_
        rintro e w5 ⟨rfl, b5⟩
        have hc5 := (b5.cell (p := ⟨B, 0, none⟩) (HV.out.lt)).trans hc
        have HO5 := Lib.hid (rowBelow HO.out b5)
        have HB5 := Lib.hid (HBW.out.trans (b5.mono HBW.out.size))
        have hkd : w5.heap[D]? = some (.deferred (some [])) := (b5.block D (lt_heap HKD.out)).trans HKD.out
        have HKD5 := Lib.hid hkd
        clear b5 hc HO HBW HKD hkd
        obtain ⟨q, hq⟩ : ∃ q, joinB la lb = q := ⟨_, rfl⟩
        have HJ := Lib.hid hq
        rw [hq]
        clear hq HAB
        cases q with
        | true =>
          go_wp2
          rw [HRR.out]
          refine ⟨by simp, .inl ⟨_, _, rfl, run_takeDeferred HKD5.out, ?_⟩⟩
          exact ⟨_, results_tmp2 rfl _ _ _, ⟨_, by rw [HJ.out]; rfl, by rw [HJ.out]; exact ownsRow_putObj HO5.out _ HKD5.out rfl, HB5.out.trans (belowK_b (w := w) (Nat.le_refl _) w5 D _ _ (by omega) HKD5.out rfl rfl)⟩⟩
        | false =>
          go_wp2
          rw [HRR.out]
          refine ⟨by simp, .inl ⟨_, _, rfl, run_takeDeferred HKD5.out, ?_⟩⟩
          exact ⟨_, results_tmp2 rfl _ _ _, ⟨_, by rw [HJ.out]; rfl, by rw [HJ.out]; exact nilJ _ _, HB5.out.trans (belowK_b (w := w) (Nat.le_refl _) w5 D _ _ (by omega) HKD5.out rfl rfl)⟩⟩
      case stop =>
        rintro D c pre W _ _ h _
        exact h.elim
    · have HJ := Lib.hid (show joinB la lb = false by unfold joinB; rw [ha, hb]; rfl)
      have HBB := Lib.hid (show ∀ W, Below w.heap.size w W → Calls Try.prog 24 #[.slice A2 lb.length cb] W fun e w' => e = .returned (.bool false) ∧ Below W.heap.size W w' from fun W hW => by rw [← hb]; exact runI W Bw lb.length cb A2 lb (HR2.out.below hW hB0) (Nat.le_trans hB0 hW.size) (by unfold maxLen; omega) HF2.out)
      clear ha hb
      refine (callsIn_wide (n := 5)).1 ?_
      refine callsIn_of_wp_marks Try.func26 rfl trivial ?_ rfl
      simp only [Try.ntmps26, List.size_toArray, List.length_cons, List.length_nil, Nat.reduceAdd, Nat.reduceSub, Array.replicate_succ, Array.replicate_zero, List.push_toArray, List.append_toArray, List.nil_append, List.cons_append]
      refine wpIn_wide.2 ?_
      go_wp2_with fail
      go_at_call 24
      refine HA.out.mono ?_
      rintro e w1 ⟨rfl, b1⟩
      have HB1 := Lib.hid b1
      clear b1
      go_wp2_with fail
      go_at_call 24
      refine Calls.mono (HBB.out w1 HB1.out) ?_
      rintro e w2 ⟨rfl, b2⟩
      have HB2 := Lib.hid (HB1.out.trans (b2.mono HB1.out.size))
      clear b2
      go_wp2
      exact ⟨_, results_tmp2 rfl _ _ _, ⟨_, by rw [HJ.out]; rfl, by rw [HJ.out, if_neg (by decide)]; exact nilJ _ _, HB2.out⟩⟩
  · have HJ := Lib.hid (show joinB la lb = false by unfold joinB; rw [ha]; rfl)
    have HA := Lib.hid (show Calls Try.prog 24 #[.slice A1 la.length ca] w fun e w' => e = .returned (.bool false) ∧ Below w.heap.size w w' from by rw [← ha]; exact runI w Bw la.length ca A1 la HR.out hB0 (by unfold maxLen; omega) HF.out)
    clear ha
    refine (callsIn_wide (n := 5)).1 ?_
    refine callsIn_of_wp_marks Try.func26 rfl trivial ?_ rfl
    simp only [Try.ntmps26, List.size_toArray, List.length_cons, List.length_nil, Nat.reduceAdd, Nat.reduceSub, Array.replicate_succ, Array.replicate_zero, List.push_toArray, List.append_toArray, List.nil_append, List.cons_append]
    refine wpIn_wide.2 ?_
    go_wp2_with fail
    go_at_call 24
    refine HA.out.mono ?_
    rintro e w1 ⟨rfl, b1⟩
    have HB1 := Lib.hid b1
    clear b1
    go_wp2
    exact ⟨_, results_tmp2 rfl _ _ _, ⟨_, by rw [HJ.out]; rfl, by rw [HJ.out, if_neg (by decide)]; exact nilJ _ _, HB1.out⟩⟩

end Go.Proofs.Ytfpgjkanmanajaa.W
