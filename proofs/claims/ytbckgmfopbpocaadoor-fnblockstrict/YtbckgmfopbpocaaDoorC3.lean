/-
  Contracts of the program's scanner: a number behind its sign, and an entry.
-/
import Derived.Test.YtbckgmfopbpocaaDoorC2
import Derived.Test.YtbckgmfopbpocaaDoorEA
import Derived.Test.YtbckgmfopbpocaaDoorB8
import Derived.BigQuiet
namespace Go.Proofs.YtbckgmfopbpocaaDoor.W
open Go.RowKit K R B

/-- what the library's two errors are is known, whatever turns from block B on -/
def ErrB (B : Nat) (w : World) : Prop := ∀ W, Below B w W →
  (∃ ev, W.cell? ⟨Tryd.laysC172_ren.g 15, 0, none⟩ = some ev ∧ (ev = .nilIface ∨ ∃ te pe, ev = .iface te pe)) ∧
  (∃ ev, W.cell? ⟨Tryd.laysC172_ren.g 16, 0, none⟩ = some ev ∧ (ev = .nilIface ∨ ∃ te pe, ev = .iface te pe))
theorem ErrB.on {B : Nat} {w w' : World} (h : ErrB B w) (hb : Below B w w') : ErrB B w' := fun W hW => h W (hb.trans hW)
theorem grown_b {B g : Nat} {w w' : World} (hg : w.grownBy w' (some g)) (hB : B ≤ g) (hs : B ≤ w.heap.size) : Below B w w' := (Below.refl B w).grown hg hs (fun k hk => by injection hk with e; omega)

theorem atoiI (s : ByteArray) (B : Nat) (w : World) (hs : s.size ≤ 100000000) (hE : ErrB B w) :
    Calls Tryd.prog 73 #[.string s] w fun e w' => ∃ er, e = .returned (.tuple #[.int .i64 (atoiR s.data.toList).1, er]) ∧ ((atoiR s.data.toList).2 = true ∧ er = .nilIface ∨ (atoiR s.data.toList).2 = false ∧ ∃ te pe, er = .iface te (.pointer (some pe))) ∧ Below w.heap.size w w' := by
  obtain ⟨⟨e1, h1, h1'⟩, e2, h2, h2'⟩ := hE w (Below.refl _ _)
  unfold atoiR
  cases ha : Lib.atoiAll s.data.toList with
  | ok v =>
    refine (Any.strconv_Atoi_ok Tryd.laysC172 s (by omega) v ha w).mono ?_
    rintro e w' ⟨rfl, hw⟩
    refine ⟨_, rfl, .inl ⟨rfl, rfl⟩, ?_⟩
    rcases hw with rfl | ⟨t, rfl⟩
    · exact Below.refl _ _
    · exact Lib.bytesWorld_below _ _ _
  | «syntax» =>
    refine (Any.strconv_Atoi_syntax Tryd.laysC172 s (by omega) ha e1 w h1 h1').mono ?_
    rintro e w' ⟨N, rfl, _, _, hb⟩
    exact ⟨_, rfl, .inr ⟨rfl, _, _, rfl⟩, hb⟩
  | range =>
    refine (Any.strconv_Atoi_range Tryd.laysC172 s (by omega) ha e2 w h2 h2').mono ?_
    rintro e w' ⟨N, rfl, _, _, hb⟩
    exact ⟨_, rfl, .inr ⟨rfl, _, _, rfl⟩, hb⟩
theorem grown_new {a w : World} {g b : Nat} (h : a.grownBy w (some g)) (hb : a.heap.size ≤ b) (i : Nat) (u : Value) : a.grownBy (w.setCell ⟨b, i, none⟩ u) (some g) :=
  ⟨h.os, h.tape, h.output, by simpa [World.setCell] using h.size, fun k hk hn => (heap_setCell_other _ _ _ _ (by show k ≠ b; omega)).trans (h.block k hk hn)⟩
theorem grownBelow {w w' w'' : World} {g : Nat} (h : w.grownBy w' (some g)) (hb : Below w'.heap.size w' w'') : w.grownBy w'' (some g) := grown_below h hb

set_option maxHeartbeats 4000000 in
set_option maxRecDepth 100000 in
/-- a number behind its sign -/
theorem numI (w : World) (g B : Nat) (l : List Int) (c : Int) (h : Scan w g l) (hl : l.length ≤ 10000000) (hB : B ≤ g) (hE : ErrB B w) :
    Calls Tryd.prog 67 #[.pointer (some ⟨g, 0, none⟩), .int .i32 c] w fun e w' => e = .returned (.tuple #[.int .i64 (numV c l).1, .bool (numV c l).2]) ∧ Scan w' g (numT c l) ∧ w.grownBy w' (some g) := by
  have HSK := Lib.hid (skipI w g l c h)
  have hgw := h.lt
  have HE := Lib.hid hE
  clear h hE
  cases hb : skipB c l with
  | false =>
    rw [hb] at HSK
    have HV := Lib.hid (show numV c l = (0, false) by unfold numV; rw [hb]; rfl)
    have HT := Lib.hid (show numT c l = skipR c l by unfold numT skipR; rw [hb]; rfl)
    go_enter Tryd.func67, Tryd.ntmps67
    go_wp2_with (go_at_call 52; refine Calls.mono HSK.out ?_; rintro e w1 ⟨rfl, hs1, hg1⟩; have HS1 := Lib.hid hs1; have HG1 := Lib.hid hg1; clear hs1 hg1)
    go_ret2
    exact ⟨by rw [HV.out]; rfl, by rw [HT.out]; exact HS1.out, HG1.out⟩
  | true =>
    rw [hb] at HSK
    have hsk : skipR c l = l.drop 1 := by unfold skipR; rw [hb]; rfl
    have hnv : numV c l = atoiR (bytesR ((l.drop 1).takeWhile digR)) := by unfold numV; rw [hb]; rfl
    have hnt : numT c l = (l.drop 1).dropWhile digR := by unfold numT; rw [hb]; rfl
    rw [hsk] at HSK
    have HNV := Lib.hid hnv
    have HNT := Lib.hid hnt
    have hl1 : (l.drop 1).length ≤ 10000000 := by rw [List.length_drop]; omega
    have hss := strR_size ((l.drop 1).takeWhile digR)
    have hsl := take_le digR (l.drop 1)
    have hsd : (strR ((l.drop 1).takeWhile digR)).data.toList = bytesR ((l.drop 1).takeWhile digR) := ofL_data _
    have HAT := Lib.hid (show ∀ W, ErrB B W → Calls Tryd.prog 73 #[.string (strR ((l.drop 1).takeWhile digR))] W fun e w' => ∃ er, e = .returned (.tuple #[.int .i64 (numV c l).1, er]) ∧ ((numV c l).2 = true ∧ er = .nilIface ∨ (numV c l).2 = false ∧ ∃ te pe, er = .iface te (.pointer (some pe))) ∧ Below W.heap.size W w' from fun W hW => by
      have := atoiI (strR ((l.drop 1).takeWhile digR)) B W (by omega) hW
      rw [hsd, ← hnv] at this
      exact this)
    have HTK := Lib.hid (fun (W : World) (hW : Scan W g (l.drop 1)) => takeD W g (l.drop 1) hW hl1)
    obtain ⟨S, hS⟩ : ∃ S, S = strR ((l.drop 1).takeWhile digR) := ⟨_, rfl⟩
    obtain ⟨V, hV⟩ : ∃ V, V = (numV c l).1 := ⟨_, rfl⟩
    obtain ⟨K, hK⟩ : ∃ K, K = (numV c l).2 := ⟨_, rfl⟩
    rw [← hS] at HAT HTK
    rw [← hV, ← hK] at HAT
    have HV := Lib.hid hV
    have HK := Lib.hid hK
    clear hsk hnv hnt hss hsl hsd hS hV hK hb
    go_enter Tryd.func67, Tryd.ntmps67
    go_wp2_with (first
      | (go_at_call 52; refine Calls.mono HSK.out ?_; rintro e w1 ⟨rfl, hs1, hg1⟩; have HS1 := Lib.hid hs1; have HG1 := Lib.hid hg1; clear hs1 hg1)
      | (go_at_call 65; refine Calls.mono (HTK.out _ HS1.out) ?_; rintro e w2 ⟨rfl, hs2, hg2⟩; have HS2 := Lib.hid hs2; have HG2 := Lib.hid (HG1.out.trans hg2); clear hs2 hg2)
      | (go_at_call 73; refine Calls.mono (HAT.out _ (HE.out.on (grown_b HG2.out hB (by omega)))) ?_; rintro e w3 ⟨er, rfl, her, hb3⟩; have HS3 := Lib.hid (HS2.out.below hb3 HS2.out.lt); have HG3 := Lib.hid (grownBelow HG2.out hb3); have HER := Lib.hid her; clear her hb3))
    rcases HER.out with ⟨hk, rfl⟩ | ⟨hk, te, pe, rfl⟩
    · have HKK := Lib.hid hk
      clear hk HER
      go_quiet (fail)
      go_wp2
      go_ret2
      exact ⟨by rw [← HV.out, ← HK.out, HKK.out]; rfl, by rw [HNT.out]; exact HS3.out, grown_drewN HG3.out _⟩
    · have HKK := Lib.hid hk
      clear hk HER
      go_quiet (fail)
      go_wp2
      go_ret2
      exact ⟨by rw [← HV.out, ← HK.out, HKK.out]; rfl, by rw [HNT.out]; exact HS3.out, grown_drewN HG3.out _⟩


set_option maxHeartbeats 4000000 in
set_option maxRecDepth 100000 in
/-- an entry is read -/
theorem entryI (w : World) (g B : Nat) (l : List Int) (h : Scan w g l) (hl : l.length ≤ 10000000) (hB : B ≤ g) (hE : ErrB B w) :
    Calls Tryd.prog 53 #[.pointer (some ⟨g, 0, none⟩)] w fun e w' => e = .returned (.tuple #[enV (entR l), .bool (okR l)]) ∧ Scan w' g (restR l) ∧ w.grownBy w' (some g) := by
  have hgw := h.lt
  obtain ⟨W0, hW0⟩ : ∃ W, W = w.alloc (.cells #[.string ⟨#[]⟩, .int .i64 0, .bool false, .int .i64 0] 43) := ⟨_, rfl⟩
  have b0 : Below w.heap.size w W0 := by rw [hW0]; exact (Below.refl _ _).alloc (Nat.le_refl _) _
  have HX0 := Lib.hid (show W0.heap[w.heap.size]? = some (.cells #[.string ⟨#[]⟩, .int .i64 0, .bool false, .int .i64 0] 43 (0, 0)) by rw [hW0]; exact heap_alloc_new _ _)
  have HS0 := Lib.hid (h.below b0 hgw)
  have HG0 := Lib.hid (grown_below (grown_refl w g) b0)
  have HE := Lib.hid hE
  have hl1 : (afterK l).length ≤ l.length := drop_le letR l
  have hl2 : (afterV l).length ≤ (afterK l).length := num_le _ _
  have hl3 : (afterT l).length ≤ (afterV l).length := num_le _ _
  have HK := Lib.hid (fun (W : World) (hW : Scan W g l) => takeL W g l hW hl)
  have HN1 := Lib.hid (show ∀ W, Scan W g (afterK l) → ErrB B W → Calls Tryd.prog 67 #[.pointer (some ⟨g, 0, none⟩), .int .i32 61] W fun e w' => e = .returned (.tuple #[.int .i64 (numV 61 (afterK l)).1, .bool (numV 61 (afterK l)).2]) ∧ Scan w' g (afterV l) ∧ W.grownBy w' (some g) from fun W hW hE => numI W g B (afterK l) 61 hW (by omega) hB hE)
  have HN2 := Lib.hid (show ∀ W, Scan W g (afterV l) → ErrB B W → Calls Tryd.prog 67 #[.pointer (some ⟨g, 0, none⟩), .int .i32 45] W fun e w' => e = .returned (.tuple #[.int .i64 (numV 45 (afterV l)).1, .bool (numV 45 (afterV l)).2]) ∧ Scan w' g (afterT l) ∧ W.grownBy w' (some g) from fun W hW hE => numI W g B (afterV l) 45 hW (by omega) hB hE)
  have HSK := Lib.hid (show ∀ W, Scan W g (afterT l) → Calls Tryd.prog 52 #[.pointer (some ⟨g, 0, none⟩), .int .i32 59] W fun e w' => e = .returned (.bool (skipB 59 (afterT l))) ∧ Scan w' g (skipR 59 (afterT l)) ∧ W.grownBy w' (some g) from fun W hW => skipI W g (afterT l) 59 hW)
  obtain ⟨SK, hSK⟩ : ∃ S, S = strR (l.takeWhile letR) := ⟨_, rfl⟩
  obtain ⟨V1, hV1⟩ : ∃ V, V = (numV 61 (afterK l)).1 := ⟨_, rfl⟩
  obtain ⟨K1, hK1⟩ : ∃ V, V = (numV 61 (afterK l)).2 := ⟨_, rfl⟩
  obtain ⟨V2, hV2⟩ : ∃ V, V = (numV 45 (afterV l)).1 := ⟨_, rfl⟩
  obtain ⟨K2, hK2⟩ : ∃ V, V = (numV 45 (afterV l)).2 := ⟨_, rfl⟩
  obtain ⟨Q, hQ⟩ : ∃ V, V = skipB 59 (afterT l) := ⟨_, rfl⟩
  rw [← hSK] at HK
  rw [← hV1, ← hK1] at HN1
  rw [← hV2, ← hK2] at HN2
  rw [← hQ] at HSK
  have HENT := Lib.hid (show entR l = ⟨SK, V1, !K1, V2⟩ by unfold entR keyR; rw [hSK, hV1, hK1, hV2])
  have HOK := Lib.hid (show okR l = (K2 && Q) by unfold okR; rw [hK2, hQ])
  have HREST := Lib.hid (show restR l = if K2 = true then skipR 59 (afterT l) else afterT l by unfold restR; rw [hK2])
  have hR : w.heap.size ≠ g := by omega
  have hBw : B ≤ w.heap.size := by omega
  have HW0 := Lib.hid hW0
  have keepX : ∀ W : World, W0.grownBy W (some g) → W.heap[w.heap.size]? = some (.cells #[.string ⟨#[]⟩, .int .i64 0, .bool false, .int .i64 0] 43 (0, 0)) := fun W hg => (hg.block w.heap.size (by have := b0.size; rw [hW0]; simp) (fun e => by injection e with e; omega)).trans HX0.out
  have KEEP := Lib.hid keepX
  have HB0 := Lib.hid b0
  clear hSK hV1 hK1 hV2 hK2 hQ hW0 h hE b0 keepX hl1 hl2 hl3
  have step : ∀ W : World, W0.grownBy W (some g) → ErrB B W := fun W hg => HE.out.on ((HB0.out.mono hBw).trans (grown_b hg hB (by have := HB0.out.size; omega)))
  have STEP := Lib.hid step
  clear step
  go_enter Tryd.func53, Tryd.ntmps53
  go_wp2_with fail
  rw [← HW0.out]
  go_at_call 65
  refine Calls.mono (HK.out _ HS0.out) ?_
  rintro e w1 ⟨rfl, hs1, hg1⟩
  have HS1 := Lib.hid (show Scan w1 g (afterK l) from hs1)
  have HG1 := Lib.hid hg1
  clear hs1 hg1
  go_wp2_with fail
  go_at_call 67
  refine Calls.mono (HN1.out _ HS1.out (STEP.out _ HG1.out)) ?_
  rintro e w2 ⟨rfl, hs2, hg2⟩
  have HS2 := Lib.hid hs2
  have HG2 := Lib.hid (HG1.out.trans hg2)
  clear hs2 hg2
  go_wp2_with fail
  go_at_call 67
  refine Calls.mono (HN2.out _ HS2.out (STEP.out _ HG2.out)) ?_
  rintro e w3 ⟨rfl, hs3, hg3⟩
  have HS3 := Lib.hid hs3
  have HG3 := Lib.hid (HG2.out.trans hg3)
  clear hs3 hg3
  have fin : ∀ W : World, W0.grownBy W (some g) → ∀ y0 y1 y2 y3, w.grownBy ((((W.setCell ⟨w.heap.size, 0, none⟩ y0).setCell ⟨w.heap.size, 1, none⟩ y1).setCell ⟨w.heap.size, 2, none⟩ y2).setCell ⟨w.heap.size, 3, none⟩ y3) (some g) := fun W hg y0 y1 y2 y3 => grown_new (grown_new (grown_new (grown_new (HG0.out.trans hg) (Nat.le_refl _) 0 y0) (Nat.le_refl _) 1 y1) (Nat.le_refl _) 2 y2) (Nat.le_refl _) 3 y3
  have FIN := Lib.hid fin
  have sc : ∀ (W : World) (r : List Int), Scan W g r → ∀ y0 y1 y2 y3, Scan ((((W.setCell ⟨w.heap.size, 0, none⟩ y0).setCell ⟨w.heap.size, 1, none⟩ y1).setCell ⟨w.heap.size, 2, none⟩ y2).setCell ⟨w.heap.size, 3, none⟩ y3) g r := fun W r hs y0 y1 y2 y3 => hs.below (below_set4 (B := w.heap.size) (Below.refl _ _) (Nat.le_refl _) y0 y1 y2 y3) hgw
  have SC := Lib.hid sc
  clear fin sc
  cases K2 with
  | false =>
    obtain ⟨x0, x1, x2, x3, f0, f1, f2, f3⟩ := row_four (KEEP.out _ HG3.out)
    go_wp2_with fail
    refine bodyPost_ret (v := .tuple #[.agg #[.string SK, .int .i64 V1, .bool (!K1), .int .i64 V2], .bool false]) ?_ rfl ⟨by rw [HENT.out, HOK.out]; rfl, by rw [HREST.out]; exact SC.out _ _ HS3.out _ _ _ _, FIN.out _ HG3.out _ _ _ _⟩
    exact ret_two rfl _ _ w.heap.size _ _ rfl rfl (load_entry (row_set4 (KEEP.out _ HG3.out)))
  | true =>
    go_wp2_with (go_at_call 52; refine Calls.mono (HSK.out _ HS3.out) ?_; rintro e w4 ⟨rfl, hs4, hg4⟩; have HS4 := Lib.hid hs4; have HG4 := Lib.hid (HG3.out.trans hg4); clear hs4 hg4; obtain ⟨x0, x1, x2, x3, f0, f1, f2, f3⟩ := row_four (KEEP.out _ HG4.out))
    refine bodyPost_ret (v := .tuple #[.agg #[.string SK, .int .i64 V1, .bool (!K1), .int .i64 V2], .bool Q]) ?_ rfl ⟨by rw [HENT.out, HOK.out]; rfl, by rw [HREST.out]; exact SC.out _ _ HS4.out _ _ _ _, FIN.out _ HG4.out _ _ _ _⟩
    exact ret_two rfl _ _ w.heap.size _ _ rfl rfl (load_entry (row_set4 (KEEP.out _ HG4.out)))

end Go.Proofs.YtbckgmfopbpocaaDoor.W
