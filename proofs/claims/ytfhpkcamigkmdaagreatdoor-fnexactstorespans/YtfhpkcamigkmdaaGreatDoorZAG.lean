/-
  What the program says of an entry, and the order of two.
  The order of two entries as the program reckons it.
  The program's RunOk: whether entries are a run.
  Contracts of the reader of codes, out of which the laws draw their inputs: opening it, and drawing a number below a bound. What is drawn is left open but for its range.
  Contracts of the other drawing functions: opening a reader on a slice of bytes, drawing one of some strings, and a string many times. What is drawn is left open but for its length.
  Contracts of the functions that draw keys and key lists: short strings, short lists. What is drawn is left open but for its length.
  Contracts of the functions that draw key lists: short lists of short strings.
  The contract of the function that draws texts out of order: a short list of short strings.
  Appending a slice of strings to one of the call's own, and the contracts of the drawing functions of the key laws.
  Contracts of the exact laws' helpers for slices of strings: measuring, copying, marking, and looking for the marks. Each at every slice that can be read.
  Contracts of the exact laws' marks: the text of a number, marking a slice, and looking for the marks.
  The contract of the exact laws' look for marks: a slice that holds the marks holds them.
  What a law is told of a slice of strings that came in: it can be read, and each string is one that Go can hold.
-/
import Derived.Test.YtfhpkcamigkmdaaGreatDoorZAA
import Derived.Test.YtfhpkcamigkmdaaGreatDoorZAF
import Derived.Test.YtfhpkcamigkmdaaGreatDoorE2
import Derived.Test.YtfhpkcamigkmdaaGreatDoorProg
import Derived.Deep.Cut
import Derived.WalkKit
import Derived.WalkLawsBesides
import Derived.WalkSpells
import Derived.Lib.Hide
import Derived.Handy
import Derived.Deep.QuietTactic
import Derived.BigQuiet
import Derived.Deep.RegionWith
namespace Go.Proofs.YtfhpkcamigkmdaaGreatDoor.W
open Go.RowKit K R

theorem okE_prog (k : ByteArray) (v : Int) (g : Bool) (t : Int) : okE ⟨k, v, g, t⟩ = (!(g && !decide (v = 0)) && (keyB k && (decide (0 ≤ v) && (decide (v ≤ 99) && (decide (1 ≤ t) && decide (t ≤ 999)))))) := by
  unfold okE
  cases g <;> cases keyB k <;> simp <;> cases decide (v = 0) <;> simp [Bool.and_assoc]

set_option maxHeartbeats 4000000 in
theorem okEI (k : ByteArray) (v : Int) (g : Bool) (t : Int) (w : World) (hk : k.size ≤ maxLen) :
    Calls Tryz.prog 150 #[.agg #[.string k, .int .i64 v, .bool g, .int .i64 t]] w fun e w' => e = .returned (.bool (okE ⟨k, v, g, t⟩)) ∧ Below w.heap.size w w' := by
  rw [okE_prog]
  rcases Bool.eq_false_or_eq_true (keyB k) with f1 | f1 <;> cases g <;> by_cases hv : v = 0 <;> by_cases h0 : 0 ≤ v <;> by_cases h1 : v ≤ 99 <;> by_cases h2 : 1 ≤ t <;> by_cases h3 : t ≤ 999 <;> (try omega)
  all_goals
    go_enter Tryz.func150, Tryz.ntmps150
    go_wp2_with (first | (go_at_call 70; refine Calls.mono (keyI k _ hk) ?_; rintro e w' ⟨rfl, rfl⟩))
    go_ret
    exact ⟨by simp [*], (Below.refl _ _).alloc (Nat.le_refl _) _⟩

def cmpN (a b : Int) : Int := if a < b then -1 else if b < a then 1 else 0
theorem nanN (a : Int) (w : World) : Calls Tryz.prog 213 #[.int .i64 a] w fun e w' => e = .returned (.bool false) ∧ w = w' := by
  go_enter Tryz.func213, Tryz.ntmps213
  go_wp2
  go_ret
  exact ⟨rfl, rfl⟩
theorem cmpNI (a b : Int) (w : World) : Calls Tryz.prog 201 #[.int .i64 a, .int .i64 b] w fun e w' => e = .returned (.int .i64 (cmpN a b)) ∧ w = w' := by
  unfold cmpN
  by_cases h1 : a < b
  · rw [if_pos h1]
    go_enter Tryz.func201, Tryz.ntmps201
    go_wp2_with (first | (go_at_call 213; refine Calls.mono (nanN _ _) ?_; rintro e w' ⟨rfl, rfl⟩))
    go_ret
    exact ⟨rfl, rfl⟩
  · rw [if_neg h1]
    by_cases h2 : b < a
    · rw [if_pos h2]
      go_enter Tryz.func201, Tryz.ntmps201
      go_wp2_with (first | (go_at_call 213; refine Calls.mono (nanN _ _) ?_; rintro e w' ⟨rfl, rfl⟩))
      go_ret
      exact ⟨rfl, rfl⟩
    · rw [if_neg h2]
      go_enter Tryz.func201, Tryz.ntmps201
      go_wp2_with (first | (go_at_call 213; refine Calls.mono (nanN _ _) ?_; rintro e w' ⟨rfl, rfl⟩))
      go_ret
      exact ⟨rfl, rfl⟩

section
variable (k k2 : ByteArray) (v v2 : Int) (g g2 : Bool) (t t2 : Int)
theorem two_below (w : World) (o o2 : Obj) : Below w.heap.size w ((w.alloc o).alloc o2) := ((Below.refl _ _).alloc (Nat.le_refl _) _).alloc (by simp) _
set_option maxHeartbeats 1000000 in
theorem byKeyI (w : World) : Calls Tryz.prog 182 #[.agg #[.string k, .int .i64 v, .bool g, .int .i64 t], .agg #[.string k2, .int .i64 v2, .bool g2, .int .i64 t2]] w fun e w' => e = .returned (.int .i64 (cmpS k k2)) ∧ Below w.heap.size w w' := by
  go_enter Tryz.func182, Tryz.ntmps182
  go_wp2_with (first | (go_at_call 165; refine Calls.mono (cmpI k k2 _) ?_; rintro e w' ⟨rfl, rfl⟩))
  go_ret
  exact ⟨rfl, two_below _ _ _⟩
set_option maxHeartbeats 1000000 in
theorem byAgeI (w : World) : Calls Tryz.prog 183 #[.agg #[.string k, .int .i64 v, .bool g, .int .i64 t], .agg #[.string k2, .int .i64 v2, .bool g2, .int .i64 t2]] w fun e w' => e = .returned (.int .i64 (cmpN t2 t)) ∧ Below w.heap.size w w' := by
  go_enter Tryz.func183, Tryz.ntmps183
  go_wp2_with (first | (go_at_call 201; refine Calls.mono (cmpNI t2 t _) ?_; rintro e w' ⟨rfl, rfl⟩))
  go_ret
  exact ⟨rfl, two_below _ _ _⟩
end

/-- the order of two entries, as a number -/
def ordV (a b : En) : Int := if cmpS a.key b.key = 0 then cmpN b.time a.time else cmpS a.key b.key
theorem ordV_neg (a b : En) : ordV a b < 0 ↔ R.ahead a b = true := by
  unfold ordV
  rw [ahead_iff]
  by_cases h : cmpS a.key b.key = 0
  · rw [if_pos h]
    have e := eqs_iff.mp (cmpS_zero.mp h)
    unfold cmpN
    constructor
    · intro hl
      right
      refine ⟨e, ?_⟩
      by_cases h1 : b.time < a.time
      · exact h1
      · rw [if_neg h1] at hl
        split at hl <;> omega
    · rintro (hl | ⟨-, hl⟩)
      · rw [e, lt_irrefl] at hl; cases hl
      · rw [if_pos hl]; decide
  · rw [if_neg h, cmpS_less]
    constructor
    · exact .inl
    · rintro (hl | ⟨hl, -⟩)
      · exact hl
      · exact absurd (cmpS_zero.mpr (eqs_iff.mpr hl)) h

end Go.Proofs.YtfhpkcamigkmdaaGreatDoor.W
namespace Go.Proofs.YtfhpkcamigkmdaaGreatDoor.W
open Go.RowKit K R

set_option maxHeartbeats 4000000 in
set_option maxRecDepth 100000 in
theorem orderI (ak bk : ByteArray) (av bv : Int) (ag bg : Bool) (at' bt : Int) (w : World) :
    Calls Tryz.prog 151 #[.agg #[.string ak, .int .i64 av, .bool ag, .int .i64 at'], .agg #[.string bk, .int .i64 bv, .bool bg, .int .i64 bt]] w fun e w' => e = .returned (.int .i64 (ordV ⟨ak, av, ag, at'⟩ ⟨bk, bv, bg, bt⟩)) ∧ Below w.heap.size w w' := by
  obtain ⟨W, hW⟩ : ∃ W, W = (w.alloc (.cells #[.string ak, .int .i64 av, .bool ag, .int .i64 at'] 83)).alloc (.cells #[.string bk, .int .i64 bv, .bool bg, .int .i64 bt] 83) := ⟨_, rfl⟩
  have HB := Lib.hid (show Below w.heap.size w W by rw [hW]; exact two_below _ _ _)
  have HX := Lib.hid (show ∀ W', Below W.heap.size W W' → W'.heap[w.heap.size]? = some (.cells #[.string ak, .int .i64 av, .bool ag, .int .i64 at'] 83 (0, 0)) ∧ W'.heap[w.heap.size + 1]? = some (.cells #[.string bk, .int .i64 bv, .bool bg, .int .i64 bt] 83 (0, 0)) from fun W' h' => by
    have hs : W.heap.size = w.heap.size + 2 := by rw [hW]; simp
    refine ⟨?_, ?_⟩
    · rw [h'.block _ (by omega), hW, Below.heap_alloc _ _ _ (by simp)]; exact heap_alloc_new _ _
    · have := heap_alloc_new (w.alloc (.cells #[.string ak, .int .i64 av, .bool ag, .int .i64 at'] 83)) (.cells #[.string bk, .int .i64 bv, .bool bg, .int .i64 bt] 83)
      rw [World.size_alloc] at this
      rw [h'.block _ (by omega), hW]; exact this)
  obtain ⟨c1, hc1⟩ : ∃ x, x = cmpS ak bk := ⟨_, rfl⟩
  obtain ⟨c2, hc2⟩ : ∃ x, x = cmpN bt at' := ⟨_, rfl⟩
  have HK := Lib.hid (show ∀ W : World, Calls Tryz.prog 182 #[.agg #[.string ak, .int .i64 av, .bool ag, .int .i64 at'], .agg #[.string bk, .int .i64 bv, .bool bg, .int .i64 bt]] W fun e w' => e = .returned (.int .i64 c1) ∧ Below W.heap.size W w' from fun W => by rw [hc1]; exact byKeyI ak bk av bv ag bg at' bt W)
  have HA := Lib.hid (show ∀ W : World, Calls Tryz.prog 183 #[.agg #[.string ak, .int .i64 av, .bool ag, .int .i64 at'], .agg #[.string bk, .int .i64 bv, .bool bg, .int .i64 bt]] W fun e w' => e = .returned (.int .i64 c2) ∧ Below W.heap.size W w' from fun W => by rw [hc2]; exact byAgeI ak bk av bv ag bg at' bt W)
  have HO := Lib.hid (show ordV ⟨ak, av, ag, at'⟩ ⟨bk, bv, bg, bt⟩ = if c1 = 0 then c2 else c1 by unfold ordV; rw [hc1, hc2])
  have HW := Lib.hid hW
  have i0 : ∀ w, (Instr.index 196 (.agg #[.func (.func 182) #[] #[], .func (.func 183) #[] #[]]) (.int .i64 0)).run Tryz.prog w = .ok (.func (.func 182) #[] #[]) w := fun _ => by kernel_rfl
  have i1 : ∀ w, (Instr.index 196 (.agg #[.func (.func 182) #[] #[], .func (.func 183) #[] #[]]) (.int .i64 1)).run Tryz.prog w = .ok (.func (.func 183) #[] #[]) w := fun _ => by kernel_rfl
  clear hW hc1 hc2
  go_enter Tryz.func151, Tryz.ntmps151
  go_wp2_with fail
  go_loopw [9] (fun i wr => (i = .int .i64 0 ∨ (i = .int .i64 1 ∧ c1 = 0) ∨ (i = .int .i64 2 ∧ c1 = 0 ∧ c2 = 0)) ∧ Below W.heap.size W wr) (fun i _ => 2 - (intOf i).toNat)
  case atStart => exact ⟨.inl rfl, by rw [HW.out]; exact Below.refl _ _⟩
  case round =>
    obtain ⟨hn, hbl⟩ := hrel
    have HBL := Lib.hid hbl
    clear hbl
    rcases hn with rfl | ⟨rfl, h1⟩ | ⟨rfl, h1, h2⟩
    · have p0 : wr.cell? ⟨w.heap.size, 0, none⟩ = some (.string ak) := by rw [cell_of_row _ _ _ _ _ _ (HX.out wr HBL.out).1]; rfl
      have p1 : wr.cell? ⟨w.heap.size, 1, none⟩ = some (.int .i64 av) := by rw [cell_of_row _ _ _ _ _ _ (HX.out wr HBL.out).1]; rfl
      have p2 : wr.cell? ⟨w.heap.size, 2, none⟩ = some (.bool ag) := by rw [cell_of_row _ _ _ _ _ _ (HX.out wr HBL.out).1]; rfl
      have p3 : wr.cell? ⟨w.heap.size, 3, none⟩ = some (.int .i64 at') := by rw [cell_of_row _ _ _ _ _ _ (HX.out wr HBL.out).1]; rfl
      have q0 : wr.cell? ⟨w.heap.size + 1, 0, none⟩ = some (.string bk) := by rw [cell_of_row _ _ _ _ _ _ (HX.out wr HBL.out).2]; rfl
      have q1 : wr.cell? ⟨w.heap.size + 1, 1, none⟩ = some (.int .i64 bv) := by rw [cell_of_row _ _ _ _ _ _ (HX.out wr HBL.out).2]; rfl
      have q2 : wr.cell? ⟨w.heap.size + 1, 2, none⟩ = some (.bool bg) := by rw [cell_of_row _ _ _ _ _ _ (HX.out wr HBL.out).2]; rfl
      have q3 : wr.cell? ⟨w.heap.size + 1, 3, none⟩ = some (.int .i64 bt) := by rw [cell_of_row _ _ _ _ _ _ (HX.out wr HBL.out).2]; rfl
      by_cases hc : c1 = 0
      · have HC := Lib.hid hc
        go_wp2_with (go_at_call 182; refine Calls.mono (HK.out _) ?_; rintro e w5 ⟨rfl, hb5⟩; have HB5 := Lib.hid (HBL.out.trans (hb5.mono HBL.out.size)); clear hb5)
        go_roundw
        case rel => exact ⟨.inr (.inl ⟨rfl, HC.out⟩), HB5.out⟩
        case measure => simp [intOf]
      · have HC := Lib.hid hc
        go_wp2_with (go_at_call 182; refine Calls.mono (HK.out _) ?_; rintro e w5 ⟨rfl, hb5⟩; have HB5 := Lib.hid (HBL.out.trans (hb5.mono HBL.out.size)); clear hb5)
        go_ret
        exact ⟨by rw [HO.out]; rw [if_neg HC.out]; rfl, HB.out.trans (HB5.out.mono HB.out.size)⟩
    · have H1 := Lib.hid h1
      clear h1
      have p0 : wr.cell? ⟨w.heap.size, 0, none⟩ = some (.string ak) := by rw [cell_of_row _ _ _ _ _ _ (HX.out wr HBL.out).1]; rfl
      have p1 : wr.cell? ⟨w.heap.size, 1, none⟩ = some (.int .i64 av) := by rw [cell_of_row _ _ _ _ _ _ (HX.out wr HBL.out).1]; rfl
      have p2 : wr.cell? ⟨w.heap.size, 2, none⟩ = some (.bool ag) := by rw [cell_of_row _ _ _ _ _ _ (HX.out wr HBL.out).1]; rfl
      have p3 : wr.cell? ⟨w.heap.size, 3, none⟩ = some (.int .i64 at') := by rw [cell_of_row _ _ _ _ _ _ (HX.out wr HBL.out).1]; rfl
      have q0 : wr.cell? ⟨w.heap.size + 1, 0, none⟩ = some (.string bk) := by rw [cell_of_row _ _ _ _ _ _ (HX.out wr HBL.out).2]; rfl
      have q1 : wr.cell? ⟨w.heap.size + 1, 1, none⟩ = some (.int .i64 bv) := by rw [cell_of_row _ _ _ _ _ _ (HX.out wr HBL.out).2]; rfl
      have q2 : wr.cell? ⟨w.heap.size + 1, 2, none⟩ = some (.bool bg) := by rw [cell_of_row _ _ _ _ _ _ (HX.out wr HBL.out).2]; rfl
      have q3 : wr.cell? ⟨w.heap.size + 1, 3, none⟩ = some (.int .i64 bt) := by rw [cell_of_row _ _ _ _ _ _ (HX.out wr HBL.out).2]; rfl
      by_cases hc : c2 = 0
      · have HC := Lib.hid hc
        go_wp2_with (go_at_call 183; refine Calls.mono (HA.out _) ?_; rintro e w5 ⟨rfl, hb5⟩; have HB5 := Lib.hid (HBL.out.trans (hb5.mono HBL.out.size)); clear hb5)
        go_roundw
        case rel => exact ⟨.inr (.inr ⟨rfl, H1.out, HC.out⟩), HB5.out⟩
        case measure => simp [intOf]
      · have HC := Lib.hid hc
        go_wp2_with (go_at_call 183; refine Calls.mono (HA.out _) ?_; rintro e w5 ⟨rfl, hb5⟩; have HB5 := Lib.hid (HBL.out.trans (hb5.mono HBL.out.size)); clear hb5)
        go_ret
        exact ⟨by rw [HO.out]; rw [if_pos H1.out]; rfl, HB.out.trans (HB5.out.mono HB.out.size)⟩
    · have H1 := Lib.hid h1
      have H2 := Lib.hid h2
      clear h1 h2
      go_wp2
      go_ret
      exact ⟨by rw [HO.out, if_pos H1.out, H2.out]; rfl, HB.out.trans (HBL.out.mono HB.out.size)⟩

end Go.Proofs.YtfhpkcamigkmdaaGreatDoor.W
namespace Go.Proofs.YtfhpkcamigkmdaaGreatDoor.W
open Go.RowKit K R

set_option maxHeartbeats 8000000 in
set_option maxRecDepth 100000 in
theorem runI (w : World) (B n c : Nat) (A : Option Addr) (l : List En) (hr : Ents w B A n l) (hB : B ≤ w.heap.size) (hn : n ≤ maxLen) (hf : ∀ e ∈ l, e.key.size ≤ maxLen) :
    Calls Tryz.prog 115 #[.slice A n c] w fun e w' => e = .returned (.bool (runB l)) ∧ Below w.heap.size w w' := by
  have hlen := hr.len
  subst hlen
  unfold maxLen at hn
  have HR := Lib.hid hr
  clear hr
  by_cases h40 : l.length ≤ 40
  case neg =>
    have HRB := Lib.hid (badE_long h40)
    have h4 : (40 : Int) < (l.length : Int) := by omega
    go_enter Tryz.func115, Tryz.ntmps115
    go_wp2
    go_ret
    exact ⟨by rw [HRB.out]; rfl, Below.refl _ _⟩
  have h4 : ¬ (40 : Int) < (l.length : Int) := by omega
  go_enter Tryz.func115, Tryz.ntmps115
  go_wp2_with fail
  go_loopw [10] (fun i wr => ∃ k : Nat, k ≤ l.length ∧ i = .int .i64 (k : Nat) ∧ goodE l k ∧ Below w.heap.size w wr) (fun i _ => l.length - (intOf i).toNat)
  case atStart => exact ⟨0, Nat.zero_le _, rfl, goodE_zero l, Below.refl _ _⟩
  case round =>
    obtain ⟨k, hk, rfl, hg, hbl⟩ := hrel
    have HBL := Lib.hid hbl
    have HG := Lib.hid hg
    clear hbl hg
    by_cases hlt : k < l.length
    · obtain ⟨kb, ko, hA, hkb, c0, c1, c2, c3⟩ := HR.out.cell k hlt
      subst hA
      obtain ⟨x0, hx0⟩ : ∃ y, y = l[k].key := ⟨_, rfl⟩
      obtain ⟨x1, hx1⟩ : ∃ y, y = l[k].val := ⟨_, rfl⟩
      obtain ⟨x2, hx2⟩ : ∃ y, y = l[k].gone := ⟨_, rfl⟩
      obtain ⟨x3, hx3⟩ : ∃ y, y = l[k].time := ⟨_, rfl⟩
      rw [← hx0] at c0
      rw [← hx1] at c1
      rw [← hx2] at c2
      rw [← hx3] at c3
      have hkb' : kb < w.heap.size := Nat.lt_of_lt_of_le hkb hB
      have r0 : wr.cell? ⟨kb, ko + k * 4, none⟩ = some (.string x0) := (HBL.out.cell (p := ⟨kb, ko + k * 4, none⟩) hkb').trans c0
      have r1 : wr.cell? ⟨kb, ko + k * 4 + 1, none⟩ = some (.int .i64 x1) := (HBL.out.cell (p := ⟨kb, ko + k * 4 + 1, none⟩) hkb').trans c1
      have r2 : wr.cell? ⟨kb, ko + k * 4 + 2, none⟩ = some (.bool x2) := (HBL.out.cell (p := ⟨kb, ko + k * 4 + 2, none⟩) hkb').trans c2
      have r3 : wr.cell? ⟨kb, ko + k * 4 + 3, none⟩ = some (.int .i64 x3) := (HBL.out.cell (p := ⟨kb, ko + k * 4 + 3, none⟩) hkb').trans c3
      obtain ⟨WX, hWX⟩ : ∃ W, W = wr.alloc (.cells #[.string x0, .int .i64 x1, .bool x2, .int .i64 x3] 83) := ⟨_, rfl⟩
      have HYX := Lib.hid (show ∀ W, Below WX.heap.size WX W → W.heap[wr.heap.size]? = some (.cells #[.string x0, .int .i64 x1, .bool x2, .int .i64 x3] 83 (0, 0)) from fun W hW => by rw [hW.block _ (by rw [hWX]; simp), hWX]; exact heap_alloc_new _ _)
      have HBW := Lib.hid (show Below w.heap.size w WX by rw [hWX]; exact HBL.out.alloc HBL.out.size _)
      have HBX := Lib.hid (Below.refl WX.heap.size WX)
      have HWX := Lib.hid hWX
      have z0 : (0 : Int) ≤ (k : Int) := by omega
      have z1 : (k : Int) < (l.length : Int) := by omega
      clear c0 c1 c2 c3 hWX
      have HS1 := Lib.hid (show ∀ W, Below WX.heap.size WX W → (fun W : World => W.cell? ⟨wr.heap.size, 0, none⟩ = some (.string x0) ∧ W.cell? ⟨wr.heap.size, 1, none⟩ = some (.int .i64 x1) ∧ W.cell? ⟨wr.heap.size, 2, none⟩ = some (.bool x2) ∧ W.cell? ⟨wr.heap.size, 3, none⟩ = some (.int .i64 x3)) W from fun W hW => by
        have h := HYX.out W hW
        refine ⟨?_, ?_, ?_, ?_⟩ <;> (rw [cell_of_row _ _ _ _ _ _ h]; rfl))
      rcases Bool.eq_false_or_eq_true (okE l[k]) with ho | ho
      · have HOK := Lib.hid (show ∀ W : World, Below WX.heap.size WX W → Calls Tryz.prog 150 #[.agg #[.string x0, .int .i64 x1, .bool x2, .int .i64 x3]] W fun e w' => e = .returned (.bool true) ∧ Below WX.heap.size WX w' from fun W hW => by have h := okEI x0 x1 x2 x3 W (by rw [hx0]; exact hf _ (List.getElem_mem hlt)); rw [show (⟨x0, x1, x2, x3⟩ : En) = l[k] by rw [hx0, hx1, hx2, hx3], ho] at h; exact h.mono fun _ _ ⟨he, hb⟩ => ⟨he, hW.trans (hb.mono hW.size)⟩)
        have HO := Lib.hid ho
        clear ho
        by_cases hk0 : k = 0
        · subst hk0
          have q0 : wr.cell? ⟨kb, ko, none⟩ = some (.string x0) := by simpa using r0
          have q1 : wr.cell? ⟨kb, ko + 1, none⟩ = some (.int .i64 x1) := by simpa using r1
          have q2 : wr.cell? ⟨kb, ko + 2, none⟩ = some (.bool x2) := by simpa using r2
          have q3 : wr.cell? ⟨kb, ko + 3, none⟩ = some (.int .i64 x3) := by simpa using r3
          have HSS := Lib.hid HS1.out
          have zz : (0 : Int) < (l.length : Int) := by omega
          clear hx0 hx1 hx2 hx3 HS1 r0 r1 r2 r3
          go_upto_region 6 with fail
          rw [← HWX.out]
          refine wp_region_held_drew (S := (fun W : World => W.cell? ⟨wr.heap.size, 0, none⟩ = some (.string x0) ∧ W.cell? ⟨wr.heap.size, 1, none⟩ = some (.int .i64 x1) ∧ W.cell? ⟨wr.heap.size, 2, none⟩ = some (.bool x2) ∧ W.cell? ⟨wr.heap.size, 3, none⟩ = some (.int .i64 x3))) (by kernel_rfl) (HSS.out _ (by first | exact HB9.out | exact bel2 HBX.out (by rfl) (by rfl) (by rfl) (by rfl))) (fun hHeld => ?_)
          refine wpAnyH_takes (a' := ?a1_) [0] (k := 1) rfl (by kernel_rfl) (by kernel_rfl) (fun _ _ _ _ _ h => h) ?t1_ (by assumption) ?r1_
          case t1_ =>
            iterate 1
              apply takes_cons rfl
              · first | (refine Or.inl ⟨by rfl, fun w9 hSw => ?_⟩; obtain ⟨f0, f1, f2, f3⟩ := hSw; go_simp; (first | done | with_reducible rfl))
              (try simp only [Act.put]); (try simp only [List.setIfInBounds_toArray]); (try simp only [List.set_cons_succ]); (try simp only [List.set_cons_zero])
            exact takes_nil
          refine wpAnyH_ready (rs := [1]) (by kernel_rfl) (by simp) ?_
          refine AllReadyH.cons (o := { dst := Option.some 16, op := Go.Op.call { callee := Go.Callee.value (Go.Operand.func 150), args := #[Go.Operand.tmp 15], argTypes := #[83] }, type := 4, pos := "l11_run.go:31", after := #[{ on := 0, ground := Go.Ground.data }], guard := Option.none }) rfl (fun K hK => ?_) AllReadyH.nil
          go_simp
          (go_at_call 150; refine Calls.mono (HOK.out _ (by first | exact HB9.out | exact bel2 HBX.out (by rfl) (by rfl) (by rfl) (by rfl))) ?_; rintro e w9 ⟨rfl, hb9⟩; have HB9 := Lib.hid hb9; clear hb9)
          (try go_wp2_with fail)
          refine hK.out _ _ (HSS.out _ (by first | exact HB9.out | exact bel2 HBX.out (by rfl) (by rfl) (by rfl) (by rfl))) (fun hHeld => ?_)
          clear hK K
          (try simp only [Act.put]); (try simp only [List.setIfInBounds_toArray]); (try simp only [List.set_cons_succ]); (try simp only [List.set_cons_zero])
          refine wpAnyH_takes (a' := ?a2_) [2, 3, 4, 5, 6, 7, 8, 9, 10, 11, 12, 13, 14, 15, 16] (k := 15) rfl (by kernel_rfl) (by kernel_rfl) (fun _ _ _ _ _ h => h) ?t2_ (by assumption) ?r2_
          case t2_ =>
            iterate 15
              apply takes_cons rfl
              · first | (refine Or.inl ⟨by rfl, fun w9 hSw => ?_⟩; clear hSw; go_simp; (first | done | with_reducible rfl)) | exact Or.inr ⟨by rfl, rfl⟩
              (try simp only [Act.put]); (try simp only [List.setIfInBounds_toArray]); (try simp only [List.set_cons_succ]); (try simp only [List.set_cons_zero])
            exact takes_nil
          refine wpAnyH_done (by kernel_rfl) ?_ _
          go_wp2
          go_roundw
          case rel => exact ⟨0 + 1, by omega, by go_num, goodE_one hlt HO.out, HBW.out.trans (HB9.out.mono HBW.out.size)⟩
          case measure => simp [intOf]; omega
        · obtain ⟨j, hjk⟩ : ∃ j, j + 1 = k := ⟨k - 1, by omega⟩
          have hjl : j < l.length := by omega
          obtain ⟨jb, jo, hA2, hjb, d0, d1, d2, d3⟩ := HR.out.cell j hjl
          injection hA2 with hA2
          injection hA2 with e1 e2
          subst e1 e2
          obtain ⟨y0, hy0⟩ : ∃ y, y = l[j].key := ⟨_, rfl⟩
          obtain ⟨y1, hy1⟩ : ∃ y, y = l[j].val := ⟨_, rfl⟩
          obtain ⟨y2, hy2⟩ : ∃ y, y = l[j].gone := ⟨_, rfl⟩
          obtain ⟨y3, hy3⟩ : ∃ y, y = l[j].time := ⟨_, rfl⟩
          rw [← hy0] at d0
          rw [← hy1] at d1
          rw [← hy2] at d2
          rw [← hy3] at d3
          have HSS := Lib.hid (show ∀ W, Below WX.heap.size WX W → (fun W : World => W.cell? ⟨kb, ko + j * 4, none⟩ = some (.string y0) ∧ W.cell? ⟨kb, ko + j * 4 + 1, none⟩ = some (.int .i64 y1) ∧ W.cell? ⟨kb, ko + j * 4 + 2, none⟩ = some (.bool y2) ∧ W.cell? ⟨kb, ko + j * 4 + 3, none⟩ = some (.int .i64 y3) ∧ W.cell? ⟨wr.heap.size, 0, none⟩ = some (.string x0) ∧ W.cell? ⟨wr.heap.size, 1, none⟩ = some (.int .i64 x1) ∧ W.cell? ⟨wr.heap.size, 2, none⟩ = some (.bool x2) ∧ W.cell? ⟨wr.heap.size, 3, none⟩ = some (.int .i64 x3)) W from fun W hW => by
            have hW' := HBW.out.trans (hW.mono HBW.out.size)
            exact ⟨(hW'.cell (p := ⟨kb, ko + j * 4, none⟩) hkb').trans d0, (hW'.cell (p := ⟨kb, ko + j * 4 + 1, none⟩) hkb').trans d1, (hW'.cell (p := ⟨kb, ko + j * 4 + 2, none⟩) hkb').trans d2, (hW'.cell (p := ⟨kb, ko + j * 4 + 3, none⟩) hkb').trans d3, HS1.out W hW⟩)
          have hwr : IntKind.i64.wrap ((k : Int) - 1) = (j : Nat) := i64_n j (by omega) _ (by omega)
          have y0' : (0 : Int) ≤ (j : Int) := by omega
          have y1' : (j : Int) < (l.length : Int) := by omega
          have y2' : (0 : Int) < (k : Int) := by omega
          have y3' : 0 < k := by omega
          have y4' : decide (0 < k) = true := by simpa using y3'
          have y5' : decide ((0 : Int) < (k : Int)) = true := by simpa using y3'
          have HJK := Lib.hid hjk
          clear d0 d1 d2 d3 hk0 hjk
          obtain ⟨d, hd⟩ : ∃ d, d = ordV l[j] l[k] := ⟨_, rfl⟩
          have HOR := Lib.hid (show ∀ W : World, Below WX.heap.size WX W → Calls Tryz.prog 151 #[.agg #[.string y0, .int .i64 y1, .bool y2, .int .i64 y3], .agg #[.string x0, .int .i64 x1, .bool x2, .int .i64 x3]] W fun e w' => e = .returned (.int .i64 d) ∧ Below WX.heap.size WX w' from fun W hW => by have h := orderI y0 x0 y1 x1 y2 x2 y3 x3 W; rw [show (⟨y0, y1, y2, y3⟩ : En) = l[j] by rw [hy0, hy1, hy2, hy3], show (⟨x0, x1, x2, x3⟩ : En) = l[k] by rw [hx0, hx1, hx2, hx3], ← hd] at h; exact h.mono fun _ _ ⟨he, hb⟩ => ⟨he, hW.trans (hb.mono hW.size)⟩)
          rcases Bool.eq_false_or_eq_true (R.ahead l[j] l[k]) with ha | ha
          · have dn : ¬ (0 : Int) ≤ d := by rw [hd]; have := (ordV_neg l[j] l[k]).mpr ha; omega
            have dm : decide ((0 : Int) ≤ d) = false := by simpa using dn
            have HA := Lib.hid ha
            clear hx0 hx1 hx2 hx3 hy0 hy1 hy2 hy3 HS1 ha hd
            go_upto_region 6 with fail
            rw [← HWX.out]
            refine wp_region_held_drew (S := (fun W : World => W.cell? ⟨kb, ko + j * 4, none⟩ = some (.string y0) ∧ W.cell? ⟨kb, ko + j * 4 + 1, none⟩ = some (.int .i64 y1) ∧ W.cell? ⟨kb, ko + j * 4 + 2, none⟩ = some (.bool y2) ∧ W.cell? ⟨kb, ko + j * 4 + 3, none⟩ = some (.int .i64 y3) ∧ W.cell? ⟨wr.heap.size, 0, none⟩ = some (.string x0) ∧ W.cell? ⟨wr.heap.size, 1, none⟩ = some (.int .i64 x1) ∧ W.cell? ⟨wr.heap.size, 2, none⟩ = some (.bool x2) ∧ W.cell? ⟨wr.heap.size, 3, none⟩ = some (.int .i64 x3))) (by kernel_rfl) (HSS.out _ (by first | exact HB9.out | exact bel2 HBX.out (by rfl) (by rfl) (by rfl) (by rfl))) (fun hHeld => ?_)
            refine wpAnyH_takes (a' := ?a3_) [0] (k := 1) rfl (by kernel_rfl) (by kernel_rfl) (fun _ _ _ _ _ h => h) ?t3_ (by assumption) ?r3_
            case t3_ =>
              iterate 1
                apply takes_cons rfl
                · first | (refine Or.inl ⟨by rfl, fun w9 hSw => ?_⟩; obtain ⟨g0, g1, g2, g3, f0, f1, f2, f3⟩ := hSw; go_simp; (first | done | with_reducible rfl))
                (try simp only [Act.put]); (try simp only [List.setIfInBounds_toArray]); (try simp only [List.set_cons_succ]); (try simp only [List.set_cons_zero])
              exact takes_nil
            refine wpAnyH_ready (rs := [1]) (by kernel_rfl) (by simp) ?_
            refine AllReadyH.cons (o := { dst := Option.some 16, op := Go.Op.call { callee := Go.Callee.value (Go.Operand.func 150), args := #[Go.Operand.tmp 15], argTypes := #[83] }, type := 4, pos := "l11_run.go:31", after := #[{ on := 0, ground := Go.Ground.data }], guard := Option.none }) rfl (fun K hK => ?_) AllReadyH.nil
            go_simp
            (go_at_call 150; refine Calls.mono (HOK.out _ (by first | exact HB9.out | exact bel2 HBX.out (by rfl) (by rfl) (by rfl) (by rfl))) ?_; rintro e w9 ⟨rfl, hb9⟩; have HB9 := Lib.hid hb9; clear hb9)
            (try go_wp2_with fail)
            refine hK.out _ _ (HSS.out _ (by first | exact HB9.out | exact bel2 HBX.out (by rfl) (by rfl) (by rfl) (by rfl))) (fun hHeld => ?_)
            clear hK K
            (try simp only [Act.put]); (try simp only [List.setIfInBounds_toArray]); (try simp only [List.set_cons_succ]); (try simp only [List.set_cons_zero])
            refine wpAnyH_takes (a' := ?a4_) [2, 3, 4, 5, 6, 7, 8, 9, 10, 11, 12] (k := 11) rfl (by kernel_rfl) (by kernel_rfl) (fun _ _ _ _ _ h => h) ?t4_ (by assumption) ?r4_
            case t4_ =>
              iterate 11
                apply takes_cons rfl
                · first | (refine Or.inl ⟨by rfl, fun w9 hSw => ?_⟩; clear hSw; go_simp; (first | done | with_reducible rfl)) | (refine Or.inl ⟨by rfl, fun w9 hSw => ?_⟩; obtain ⟨g0, g1, g2, g3, f0, f1, f2, f3⟩ := hSw; go_simp; (first | done | with_reducible rfl))
                (try simp only [Act.put]); (try simp only [List.setIfInBounds_toArray]); (try simp only [List.set_cons_succ]); (try simp only [List.set_cons_zero])
              exact takes_nil
            refine wpAnyH_ready (rs := [13]) (by kernel_rfl) (by simp) ?_
            refine AllReadyH.cons (o := { dst := Option.some 28, op := Go.Op.call { callee := Go.Callee.value (Go.Operand.func 151), args := #[Go.Operand.tmp 26, Go.Operand.tmp 27], argTypes := #[83, 83] }, type := 3, pos := "l11_run.go:31", after := #[{ on := 11, ground := Go.Ground.data }, { on := 12, ground := Go.Ground.data }, { on := 6, ground := Go.Ground.chain }, { on := 6, ground := Go.Ground.guard }], guard := Option.some (6, Bool.true) }) rfl (fun K hK => ?_) AllReadyH.nil
            go_simp
            (go_at_call 151; refine Calls.mono (HOR.out _ (by first | exact HB9.out | exact bel2 HBX.out (by rfl) (by rfl) (by rfl) (by rfl))) ?_; rintro e w9 ⟨rfl, hb9⟩; have HB9 := Lib.hid hb9; clear hb9)
            (try go_wp2_with fail)
            refine hK.out _ _ (HSS.out _ (by first | exact HB9.out | exact bel2 HBX.out (by rfl) (by rfl) (by rfl) (by rfl))) (fun hHeld => ?_)
            clear hK K
            (try simp only [Act.put]); (try simp only [List.setIfInBounds_toArray]); (try simp only [List.set_cons_succ]); (try simp only [List.set_cons_zero])
            refine wpAnyH_takes (a' := ?a5_) [14, 15, 16] (k := 3) rfl (by kernel_rfl) (by kernel_rfl) (fun _ _ _ _ _ h => h) ?t5_ (by assumption) ?r5_
            case t5_ =>
              iterate 3
                apply takes_cons rfl
                · first | (refine Or.inl ⟨by rfl, fun w9 hSw => ?_⟩; clear hSw; go_simp; (first | done | with_reducible rfl))
                (try simp only [Act.put]); (try simp only [List.setIfInBounds_toArray]); (try simp only [List.set_cons_succ]); (try simp only [List.set_cons_zero])
              exact takes_nil
            refine wpAnyH_done (by kernel_rfl) ?_ _
            go_wp2
            go_roundw
            case rel => exact ⟨k + 1, by omega, by go_num, goodE_succ2 HJK.out HG.out hlt HO.out HA.out, HBW.out.trans (HB9.out.mono HBW.out.size)⟩
            case measure => simp [intOf]; omega
          · have dn : (0 : Int) ≤ d := by
              rw [hd]
              have h := ordV_neg l[j] l[k]
              rw [ha] at h
              have : ¬ ordV l[j] l[k] < 0 := fun hc => by have := h.mp hc; cases this
              omega
            have dm : decide ((0 : Int) ≤ d) = true := by simpa using dn
            have HRB := Lib.hid (badE_ord2 HJK.out hlt ha)
            clear hx0 hx1 hx2 hx3 hy0 hy1 hy2 hy3 HS1 ha hd
            go_upto_region 6 with fail
            rw [← HWX.out]
            refine wp_region_held_drew (S := (fun W : World => W.cell? ⟨kb, ko + j * 4, none⟩ = some (.string y0) ∧ W.cell? ⟨kb, ko + j * 4 + 1, none⟩ = some (.int .i64 y1) ∧ W.cell? ⟨kb, ko + j * 4 + 2, none⟩ = some (.bool y2) ∧ W.cell? ⟨kb, ko + j * 4 + 3, none⟩ = some (.int .i64 y3) ∧ W.cell? ⟨wr.heap.size, 0, none⟩ = some (.string x0) ∧ W.cell? ⟨wr.heap.size, 1, none⟩ = some (.int .i64 x1) ∧ W.cell? ⟨wr.heap.size, 2, none⟩ = some (.bool x2) ∧ W.cell? ⟨wr.heap.size, 3, none⟩ = some (.int .i64 x3))) (by kernel_rfl) (HSS.out _ (by first | exact HB9.out | exact bel2 HBX.out (by rfl) (by rfl) (by rfl) (by rfl))) (fun hHeld => ?_)
            refine wpAnyH_takes (a' := ?a6_) [0] (k := 1) rfl (by kernel_rfl) (by kernel_rfl) (fun _ _ _ _ _ h => h) ?t6_ (by assumption) ?r6_
            case t6_ =>
              iterate 1
                apply takes_cons rfl
                · first | (refine Or.inl ⟨by rfl, fun w9 hSw => ?_⟩; obtain ⟨g0, g1, g2, g3, f0, f1, f2, f3⟩ := hSw; go_simp; (first | done | with_reducible rfl))
                (try simp only [Act.put]); (try simp only [List.setIfInBounds_toArray]); (try simp only [List.set_cons_succ]); (try simp only [List.set_cons_zero])
              exact takes_nil
            refine wpAnyH_ready (rs := [1]) (by kernel_rfl) (by simp) ?_
            refine AllReadyH.cons (o := { dst := Option.some 16, op := Go.Op.call { callee := Go.Callee.value (Go.Operand.func 150), args := #[Go.Operand.tmp 15], argTypes := #[83] }, type := 4, pos := "l11_run.go:31", after := #[{ on := 0, ground := Go.Ground.data }], guard := Option.none }) rfl (fun K hK => ?_) AllReadyH.nil
            go_simp
            (go_at_call 150; refine Calls.mono (HOK.out _ (by first | exact HB9.out | exact bel2 HBX.out (by rfl) (by rfl) (by rfl) (by rfl))) ?_; rintro e w9 ⟨rfl, hb9⟩; have HB9 := Lib.hid hb9; clear hb9)
            (try go_wp2_with fail)
            refine hK.out _ _ (HSS.out _ (by first | exact HB9.out | exact bel2 HBX.out (by rfl) (by rfl) (by rfl) (by rfl))) (fun hHeld => ?_)
            clear hK K
            (try simp only [Act.put]); (try simp only [List.setIfInBounds_toArray]); (try simp only [List.set_cons_succ]); (try simp only [List.set_cons_zero])
            refine wpAnyH_takes (a' := ?a7_) [2, 3, 4, 5, 6, 7, 8, 9, 10, 11, 12] (k := 11) rfl (by kernel_rfl) (by kernel_rfl) (fun _ _ _ _ _ h => h) ?t7_ (by assumption) ?r7_
            case t7_ =>
              iterate 11
                apply takes_cons rfl
                · first | (refine Or.inl ⟨by rfl, fun w9 hSw => ?_⟩; clear hSw; go_simp; (first | done | with_reducible rfl)) | (refine Or.inl ⟨by rfl, fun w9 hSw => ?_⟩; obtain ⟨g0, g1, g2, g3, f0, f1, f2, f3⟩ := hSw; go_simp; (first | done | with_reducible rfl))
                (try simp only [Act.put]); (try simp only [List.setIfInBounds_toArray]); (try simp only [List.set_cons_succ]); (try simp only [List.set_cons_zero])
              exact takes_nil
            refine wpAnyH_ready (rs := [13]) (by kernel_rfl) (by simp) ?_
            refine AllReadyH.cons (o := { dst := Option.some 28, op := Go.Op.call { callee := Go.Callee.value (Go.Operand.func 151), args := #[Go.Operand.tmp 26, Go.Operand.tmp 27], argTypes := #[83, 83] }, type := 3, pos := "l11_run.go:31", after := #[{ on := 11, ground := Go.Ground.data }, { on := 12, ground := Go.Ground.data }, { on := 6, ground := Go.Ground.chain }, { on := 6, ground := Go.Ground.guard }], guard := Option.some (6, Bool.true) }) rfl (fun K hK => ?_) AllReadyH.nil
            go_simp
            (go_at_call 151; refine Calls.mono (HOR.out _ (by first | exact HB9.out | exact bel2 HBX.out (by rfl) (by rfl) (by rfl) (by rfl))) ?_; rintro e w9 ⟨rfl, hb9⟩; have HB9 := Lib.hid hb9; clear hb9)
            (try go_wp2_with fail)
            refine hK.out _ _ (HSS.out _ (by first | exact HB9.out | exact bel2 HBX.out (by rfl) (by rfl) (by rfl) (by rfl))) (fun hHeld => ?_)
            clear hK K
            (try simp only [Act.put]); (try simp only [List.setIfInBounds_toArray]); (try simp only [List.set_cons_succ]); (try simp only [List.set_cons_zero])
            refine wpAnyH_takes (a' := ?a8_) [14, 15, 16] (k := 3) rfl (by kernel_rfl) (by kernel_rfl) (fun _ _ _ _ _ h => h) ?t8_ (by assumption) ?r8_
            case t8_ =>
              iterate 3
                apply takes_cons rfl
                · first | (refine Or.inl ⟨by rfl, fun w9 hSw => ?_⟩; clear hSw; go_simp; (first | done | with_reducible rfl))
                (try simp only [Act.put]); (try simp only [List.setIfInBounds_toArray]); (try simp only [List.set_cons_succ]); (try simp only [List.set_cons_zero])
              exact takes_nil
            refine wpAnyH_done (by kernel_rfl) ?_ _
            go_wp2
            go_ret
            exact ⟨by rw [HRB.out]; rfl, HBW.out.trans (HB9.out.mono HBW.out.size)⟩
      · have HOK := Lib.hid (show ∀ W : World, Below WX.heap.size WX W → Calls Tryz.prog 150 #[.agg #[.string x0, .int .i64 x1, .bool x2, .int .i64 x3]] W fun e w' => e = .returned (.bool false) ∧ Below WX.heap.size WX w' from fun W hW => by have h := okEI x0 x1 x2 x3 W (by rw [hx0]; exact hf _ (List.getElem_mem hlt)); rw [show (⟨x0, x1, x2, x3⟩ : En) = l[k] by rw [hx0, hx1, hx2, hx3], ho] at h; exact h.mono fun _ _ ⟨he, hb⟩ => ⟨he, hW.trans (hb.mono hW.size)⟩)
        have HRB := Lib.hid (badE_ok hlt ho)
        have HSS := Lib.hid HS1.out
        clear hx0 hx1 hx2 hx3 HS1 ho
        go_upto_region 6 with fail
        rw [← HWX.out]
        refine wp_region_held_drew (S := (fun W : World => W.cell? ⟨wr.heap.size, 0, none⟩ = some (.string x0) ∧ W.cell? ⟨wr.heap.size, 1, none⟩ = some (.int .i64 x1) ∧ W.cell? ⟨wr.heap.size, 2, none⟩ = some (.bool x2) ∧ W.cell? ⟨wr.heap.size, 3, none⟩ = some (.int .i64 x3))) (by kernel_rfl) (HSS.out _ (by first | exact HB9.out | exact bel2 HBX.out (by rfl) (by rfl) (by rfl) (by rfl))) (fun hHeld => ?_)
        refine wpAnyH_takes (a' := ?a9_) [0] (k := 1) rfl (by kernel_rfl) (by kernel_rfl) (fun _ _ _ _ _ h => h) ?t9_ (by assumption) ?r9_
        case t9_ =>
          iterate 1
            apply takes_cons rfl
            · first | (refine Or.inl ⟨by rfl, fun w9 hSw => ?_⟩; obtain ⟨f0, f1, f2, f3⟩ := hSw; go_simp; (first | done | with_reducible rfl))
            (try simp only [Act.put]); (try simp only [List.setIfInBounds_toArray]); (try simp only [List.set_cons_succ]); (try simp only [List.set_cons_zero])
          exact takes_nil
        refine wpAnyH_ready (rs := [1]) (by kernel_rfl) (by simp) ?_
        refine AllReadyH.cons (o := { dst := Option.some 16, op := Go.Op.call { callee := Go.Callee.value (Go.Operand.func 150), args := #[Go.Operand.tmp 15], argTypes := #[83] }, type := 4, pos := "l11_run.go:31", after := #[{ on := 0, ground := Go.Ground.data }], guard := Option.none }) rfl (fun K hK => ?_) AllReadyH.nil
        go_simp
        (go_at_call 150; refine Calls.mono (HOK.out _ (by first | exact HB9.out | exact bel2 HBX.out (by rfl) (by rfl) (by rfl) (by rfl))) ?_; rintro e w9 ⟨rfl, hb9⟩; have HB9 := Lib.hid hb9; clear hb9)
        (try go_wp2_with fail)
        refine hK.out _ _ (HSS.out _ (by first | exact HB9.out | exact bel2 HBX.out (by rfl) (by rfl) (by rfl) (by rfl))) (fun hHeld => ?_)
        clear hK K
        (try simp only [Act.put]); (try simp only [List.setIfInBounds_toArray]); (try simp only [List.set_cons_succ]); (try simp only [List.set_cons_zero])
        refine wpAnyH_takes (a' := ?a10_) [2, 3, 4, 5, 6, 7, 8, 9, 10, 11, 12, 13, 14, 15, 16] (k := 15) rfl (by kernel_rfl) (by kernel_rfl) (fun _ _ _ _ _ h => h) ?t10_ (by assumption) ?r10_
        case t10_ =>
          iterate 15
            apply takes_cons rfl
            · first | (refine Or.inl ⟨by rfl, fun w9 hSw => ?_⟩; clear hSw; go_simp; (first | done | with_reducible rfl)) | exact Or.inr ⟨by rfl, rfl⟩
            (try simp only [Act.put]); (try simp only [List.setIfInBounds_toArray]); (try simp only [List.set_cons_succ]); (try simp only [List.set_cons_zero])
          exact takes_nil
        refine wpAnyH_done (by kernel_rfl) ?_ _
        go_wp2
        go_ret
        exact ⟨by rw [HRB.out]; rfl, HBW.out.trans (HB9.out.mono HBW.out.size)⟩
    · have hke : k = l.length := by omega
      subst hke
      have HE := Lib.hid (goodE_end HG.out)
      go_wp2
      go_ret
      exact ⟨by rw [HE.out]; simp [h40], HBL.out⟩

end Go.Proofs.YtfhpkcamigkmdaaGreatDoor.W
namespace Go.Proofs.YtfhpkcamigkmdaaGreatDoor.W
open Go.RowKit

end Go.Proofs.YtfhpkcamigkmdaaGreatDoor.W

namespace Go.Proofs.YtfhpkcamigkmdaaGreatDoor.W
open Go.RowKit

end Go.Proofs.YtfhpkcamigkmdaaGreatDoor.W

namespace Go.Proofs.YtfhpkcamigkmdaaGreatDoor.W
open Go.RowKit K

end Go.Proofs.YtfhpkcamigkmdaaGreatDoor.W

namespace Go.Proofs.YtfhpkcamigkmdaaGreatDoor.W
open Go.RowKit K

end Go.Proofs.YtfhpkcamigkmdaaGreatDoor.W

namespace Go.Proofs.YtfhpkcamigkmdaaGreatDoor.W
open Go.RowKit K

end Go.Proofs.YtfhpkcamigkmdaaGreatDoor.W

namespace Go.Proofs.YtfhpkcamigkmdaaGreatDoor.W
open Go.RowKit K

/-- appending nothing changes nothing -/
theorem run_app_nil (w : World) (base : Nat) (v : Value) (l : List ByteArray) (hown : Own w base v l) (A2 : Option Addr) (c2 : Nat) (ty : TypeId) :
    (Builtin.append_ #[90, 90] ty #[v, .slice A2 0 c2]).run Tryz.prog w = .ok v w := by
  obtain ⟨i0, hi, hz0, hz1, hz2⟩ := info_parts str_info
  rcases hown.2 with ⟨rfl, _⟩ | ⟨g, cap, cur, rfl, _, _, hnc, _⟩
  · cases A2 <;> simp [Builtin.append_, run_underlying Tryz.underlying90, sizeOf, typeInfo, hi, Builtin.lenOf, Builtin.firstCells, loadCells, loadCellsFrom]
  · cases A2 <;> simp [Builtin.append_, run_underlying Tryz.underlying90, sizeOf, typeInfo, hi, Builtin.lenOf, Builtin.firstCells, hnc, storeCells, loadCells, loadCellsFrom]

/-- append of a slice that can be read, under a guard that says yes -/
theorem app_own_g {ops : Array Oper} {rest : List Oper} {o : Oper} {a : Act} {Q : Exit → Act → World → Prop} (hw : Region.wanted o (yielded ops a.tmps) = true) (s x : Operand)
    (ho : o.op = .call { callee := .builtin .append, args := #[s, x], argTypes := #[90, 90] })
    (w : World) (base : Nat) (v : Value) (l : List ByteArray) (hs : a.eval s = v) (hown : Own w base v l) (B m cc : Nat) (A2 : Option Addr) (l2 : List ByteArray)
    (hx : a.eval x = .slice A2 m cc) (hr : Strs w B A2 m l2) (hl : l.length + m ≤ 4398046511104) (hbase : base ≤ w.heap.size)
    (h : ∀ v' w', Own w' base v' (l ++ l2) → w.grownBy w' v.ownBlock → wpList Tryz.prog ops Q rest (a.put o.dst v') w') : wpList Tryz.prog ops Q (o :: rest) a w := by
  have hlen := hr.len
  refine wpList_step fun K hK => ?_
  rw [if_pos hw]
  by_cases hm : m = 0
  · subst hm
    have : l2 = [] := List.eq_nil_of_length_eq_zero hlen
    subst this
    have hrun := run_app_nil w base v l hown A2 cc o.type
    unfold Oper.wp execOp
    simp only [ho, resolve, invoke, builtin, Sem.run_bind, Sem.run_pure, Result.andThen_ok, List.map_toArray, List.map_cons, List.map_nil, hs, hx, hrun]
    exact hK _ _ (h v w (by rw [List.append_nil]; exact hown) (World.grownBy.refl w _))
  · obtain ⟨b, off, hA, _, _⟩ := hr.cell 0 (by omega)
    subst hA
    obtain ⟨i0, hi, hz0, hz1, hz2⟩ := info_parts str_info
    refine wp_append_lies w s x _ ho base _ i0 (.string ⟨#[]⟩) 1 16 Tryz.underlying90 hi hz0 hz1 hz2 rfl (by decide) v l.length (l.map Value.string) hs hown ⟨b, off, none⟩ m cc (l2.map Value.string) hx (by simp [hlen]) ?_ ?_ (by omega) ?_ ?_ hbase _ rfl ?_
    · intro j u hj
      rw [List.getElem?_map] at hj
      rcases Nat.lt_or_ge j l2.length with hlt | hge
      · rw [List.getElem?_eq_getElem hlt] at hj
        simp at hj
        subst hj
        obtain ⟨b', off', hA', _, hc⟩ := hr.cell j hlt
        simp only [Option.some.injEq, Addr.mk.injEq, and_true] at hA'
        obtain ⟨rfl, rfl⟩ := hA'
        have hadd : (⟨b, off, none⟩ : Addr).add j = ⟨b, off + j, none⟩ := by unfold Addr.add; split <;> simp_all
        rw [hadd]
        exact hc
      · rw [List.getElem?_eq_none hge] at hj; simp at hj
    · intro u hu
      obtain ⟨x, _, rfl⟩ := List.mem_map.mp hu
      rfl
    · unfold maxLen; omega
    · omega
    · intro g cap w' h2 h3 _ _
      refine hK _ _ (h _ w' ?_ h3)
      unfold Own
      rw [List.length_append, List.map_append, hlen]
      exact h2
/-- append of a slice that can be read -/
theorem app_own {ops : Array Oper} {rest : List Oper} {o : Oper} {a : Act} {Q : Exit → Act → World → Prop} (hgd : o.guard = none) (s x : Operand)
    (ho : o.op = .call { callee := .builtin .append, args := #[s, x], argTypes := #[90, 90] })
    (w : World) (base : Nat) (v : Value) (l : List ByteArray) (hs : a.eval s = v) (hown : Own w base v l) (B m cc : Nat) (A2 : Option Addr) (l2 : List ByteArray)
    (hx : a.eval x = .slice A2 m cc) (hr : Strs w B A2 m l2) (hl : l.length + m ≤ 4398046511104) (hbase : base ≤ w.heap.size)
    (h : ∀ v' w', Own w' base v' (l ++ l2) → w.grownBy w' v.ownBlock → wpList Tryz.prog ops Q rest (a.put o.dst v') w') : wpList Tryz.prog ops Q (o :: rest) a w :=
  app_own_g (by simp [Region.wanted, hgd]) s x ho w base v l hs hown B m cc A2 l2 hx hr hl hbase h

theorem one_strs (w : World) (s : ByteArray) : Strs (w.alloc (.cells #[.string s] 9)) (w.heap.size + 1) (some ⟨w.heap.size, 0, none⟩) 1 [s] :=
  ⟨rfl, fun i hi => ⟨w.heap.size, 0, rfl, by omega, by
    obtain rfl : i = 0 := by simpa using hi
    exact cell_new w _ _⟩⟩

end Go.Proofs.YtfhpkcamigkmdaaGreatDoor.W

namespace Go.Proofs.YtfhpkcamigkmdaaGreatDoor.W
open Go.RowKit K

/-- what is measured: what is left of L, or -1; if something is left all lengths are at most L -/
def Sized (L : Nat) (l : List ByteArray) (w : World) (e : Ending) (w' : World) : Prop :=
  ∃ x : Int, e = .returned (.int .i64 x) ∧ -1 ≤ x ∧ x ≤ (L : Int) ∧ (0 ≤ x → l.length ≤ L ∧ ∀ s ∈ l, s.size ≤ L) ∧ w = w'
/-- the first k are short -/
def upTo (l : List ByteArray) (L k : Nat) : Prop := ∀ i (h : i < l.length), i < k → l[i].size ≤ L

set_option maxHeartbeats 400000 in
theorem sizeS (w : World) (B n c L : Nat) (A : Option Addr) (l : List ByteArray) (hr : Strs w B A n l) (hn : n ≤ maxLen) (hf : Fit l) (hL : L ≤ 1073741824) :
    Calls Tryz.prog 132 #[.slice A n c, .int .i64 (L : Nat)] w (Sized L l w) := by
  have hlen := hr.len
  subst hlen
  unfold maxLen at hn
  have HR := Lib.hid hr
  have HF := Lib.hid hf
  clear hr hf
  by_cases hb : l.length ≤ L
  · go_enter Tryz.func132, Tryz.ntmps132
    go_wp2
    go_loop [1, 5] (fun lv i => ∃ k m : Nat, k ≤ l.length ∧ m ≤ L ∧ i = .int .i64 (k : Nat) ∧ lv = .int .i64 (m : Nat) ∧ upTo l L k) (fun _ i => l.length - (intOf i).toNat)
    case atStart => exact ⟨0, L - l.length, Nat.zero_le _, by omega, rfl, by go_num, fun i _ h => by omega⟩
    case round =>
      obtain ⟨k, m, hk, hm, rfl, rfl, hu⟩ := hrel
      have HU := Lib.hid hu
      clear hu
      by_cases hlt : k < l.length
      · obtain ⟨b, off, hA, hbb, hc⟩ := HR.out.cell k hlt
        subst hA
        have hfit := HF.out.get hlt
        unfold maxLen at hfit
        by_cases hs : l[k].size ≤ m
        · go_wp2
          go_round
          case rel =>
            refine ⟨k + 1, m - l[k].size, by omega, by omega, by go_num, by go_num, fun i hi hik => ?_⟩
            rcases (by omega : i < k ∨ i = k) with h1 | h1
            · exact HU.out i hi h1
            · subst h1; omega
          case measure => simp [intOf]; omega
        · go_wp2
          go_ret
          exact ⟨-1, rfl, by omega, by omega, fun h => by omega, rfl⟩
      · have hke : k = l.length := by omega
        subst hke
        go_wp2
        go_ret
        refine ⟨_, rfl, by omega, by omega, fun _ => ⟨hb, fun s hs => ?_⟩, rfl⟩
        obtain ⟨i, hi, rfl⟩ := List.mem_iff_getElem.mp hs
        exact HU.out i hi hi
  · go_enter Tryz.func132, Tryz.ntmps132
    go_wp2
    go_ret
    exact ⟨-1, rfl, by omega, by omega, fun h => by omega, rfl⟩

/-- a string stored into a slice of the call's own -/
theorem Own.set {w : World} {base g n c : Nat} {l : List ByteArray} (h : Own w base (.slice (some ⟨g, 0, none⟩) n c) l) (i : Nat) (s : ByteArray) :
    Own (w.setCell ⟨g, i, none⟩ (.string s)) base (.slice (some ⟨g, 0, none⟩) n c) (l.set i s) := by
  have hn : n = l.length := by
    obtain ⟨A', c', hv, _⟩ := h.parts
    injection hv
  rcases h.2 with ⟨hv, _⟩ | ⟨g', cap, cur, hv, hb, hg, hc, hm, hs, ht⟩
  · injection hv with e; cases e
  · injection hv with e1 e2 e3
    injection e1 with e1
    injection e1 with e1
    subst e1 e2 e3
    refine ⟨by simp, .inr ⟨g, c, cur.setIfInBounds i (.string s), ?_, hb, heap_setCell_same _ _ _ _ _ _ hg, by simpa using hc, hm, by simpa using hs, ?_⟩⟩
    · rw [List.length_set]
    · rw [Array.toList_setIfInBounds, List.length_set, List.take_set, ht, List.map_set]
theorem Own.free {w : World} {base g n c : Nat} {l : List ByteArray} (h : Own w base (.slice (some ⟨g, 0, none⟩) n c) l) (i : Nat) : w.frozen? ⟨g, i, none⟩ = false := by
  rcases h.2 with ⟨hv, _⟩ | ⟨g', cap, cur, hv, hb, hg, _⟩
  · injection hv with e; cases e
  · injection hv with e1
    injection e1 with e1
    injection e1 with e1
    subst e1
    exact frozen_of_row _ _ _ _ _ hg
theorem Own.get {w : World} {base g n c : Nat} {l : List ByteArray} (h : Own w base (.slice (some ⟨g, 0, none⟩) n c) l) (i : Nat) (hi : i < l.length) : w.cell? ⟨g, i, none⟩ = some (.string l[i]) := by
  obtain ⟨A', c', hv, _, _, hs⟩ := h.parts
  injection hv with e1
  obtain ⟨b, off, hA, _, hc⟩ := hs.cell i hi
  rw [← e1] at hA
  injection hA with hA
  injection hA with hA1 hA2
  subst hA1 hA2
  rwa [Nat.zero_add] at hc

/-- so many empty strings -/
def blanks (n : Nat) : List ByteArray := List.replicate n ⟨#[]⟩
theorem copy_step {l : List ByteArray} {k : Nat} (h : k < l.length) : (l.take k ++ blanks (l.length - k)).set k l[k] = l.take (k + 1) ++ blanks (l.length - (k + 1)) := by
  have hl : (l.take k).length = k := by rw [List.length_take]; omega
  have hb : blanks (l.length - k) = ⟨#[]⟩ :: blanks (l.length - (k + 1)) := by
    unfold blanks
    rw [show l.length - k = (l.length - (k + 1)) + 1 by omega, List.replicate_succ]
  rw [hb, List.set_append_right _ _ (by omega), hl, Nat.sub_self, List.set_cons_zero, take_get h, List.append_assoc]
  rfl

theorem made_own {w : World} {base n : Nat} {v : Value} (h : w.ownsRow base 9 1 v n (madeCells (Value.cells (.string ⟨#[]⟩)) (n * 1)).toList) : Own w base v (blanks n) := by
  unfold Own blanks
  rw [List.length_replicate, List.map_replicate, ← toList_madeCells_one]
  rw [Nat.mul_one] at h
  exact h

set_option maxHeartbeats 1000000 in
theorem copyS (w : World) (B n c : Nat) (A : Option Addr) (l : List ByteArray) (hr : Strs w B A n l) (hB : B ≤ w.heap.size) (hn : n ≤ 1073741824) :
    Calls Tryz.prog 136 #[.slice A n c] w (New w l) := by
  have hlen := hr.len
  subst hlen
  have HR := Lib.hid hr
  clear hr
  obtain ⟨i0, hi, hz0, hz1, hz2⟩ := info_parts str_info
  go_enter Tryz.func136, Tryz.ntmps136
  go_wp2_with (at_make; refine wpList_make_full w rfl (.tmp 6) (.tmp 6) 90 rfl w.heap.size 9 i0 (.string ⟨#[]⟩) 1 Tryz.underlying90 hi hz0 hz1 .i64 .i64 _ _ l.length rfl rfl rfl rfl (by rw [hz2]; omega) (by unfold maxLen; omega) (Nat.le_refl _) ?_; intro w1 ho1 hg1)
  have HO1 := Lib.hid (made_own ho1)
  have HB1 := Lib.hid ((Below.refl w.heap.size w).grown hg1 (Nat.le_refl _) (fun k e => by cases e))
  clear ho1 hg1 hi hz0 hz1 hz2
  go_wp2_with fail
  go_loopw [4] (fun i wr => ∃ k : Nat, k ≤ l.length ∧ i = .int .i64 (k : Nat) ∧ Own wr w.heap.size (.slice (some ⟨w.heap.size, 0, none⟩) l.length l.length) (l.take k ++ blanks (l.length - k)) ∧ Below w.heap.size w wr) (fun i _ => l.length - (intOf i).toNat)
  case atStart => exact ⟨0, Nat.zero_le _, rfl, by simpa using HO1.out, HB1.out⟩
  case round =>
    obtain ⟨k, hk, rfl, ho, hb⟩ := hrel
    have HO := Lib.hid ho
    have HB := Lib.hid hb
    clear ho hb HO1 HB1
    by_cases hlt : k < l.length
    · obtain ⟨b, off, hA, hbB, hc⟩ := (HR.out.below HB.out hB).cell k hlt
      subst hA
      have hcell := HO.out.get k (by simp [blanks]; omega)
      have hfz := HO.out.free k
      go_wp2
      go_roundw
      case rel => exact ⟨k + 1, by omega, by go_num, by rw [← copy_step hlt]; exact HO.out.set k l[k], HB.out.setCell (Nat.le_refl _) _⟩
      case measure => simp [intOf]; omega
    · have hke : k = l.length := by omega
      subst hke
      go_wp2
      go_ret
      exact ⟨_, rfl, by simpa [blanks] using HO.out, HB.out⟩

end Go.Proofs.YtfhpkcamigkmdaaGreatDoor.W

namespace Go.Proofs.YtfhpkcamigkmdaaGreatDoor.W
open Go.RowKit K

theorem grown_set {a w : World} {g : Nat} (h : a.grownBy w (some g)) (i : Nat) (u : Value) : a.grownBy (w.setCell ⟨g, i, none⟩ u) (some g) :=
  ⟨h.os, h.tape, h.output, by simpa [World.setCell] using h.size, fun k hk hn => (heap_setCell_other _ _ _ _ (fun e => hn (by rw [e]))).trans (h.block k hk hn)⟩

end Go.Proofs.YtfhpkcamigkmdaaGreatDoor.W

namespace Go.Proofs.YtfhpkcamigkmdaaGreatDoor.W
open Go.RowKit K

end Go.Proofs.YtfhpkcamigkmdaaGreatDoor.W

namespace Go.Proofs.YtfhpkcamigkmdaaGreatDoor.W
open Go.RowKit K

def IsStrs (w : World) (A : Option Addr) (n c : Nat) (l : List ByteArray) : Prop := Strs w w.heap.size A n l ∧ n ≤ c ∧ c ≤ maxLen ∧ Fit l
theorem isStrs_of {w : World} {a : Addr} {len cap : Nat} {ss : List ByteArray} (hl : len ≤ cap) (hm : cap ≤ maxLen) (hz : len ≤ ss.length)
    (hcell : ∀ i, i < ss.length → w.cell? (a.add i) = some (.string (ss.getD i ByteArray.empty))) (hws : ∀ s ∈ ss, s.size ≤ maxLen) : IsStrs w (some a) len cap (ss.take len) := by
  refine ⟨⟨by rw [List.length_take]; omega, fun i hi => ?_⟩, hl, hm, fun s hs => hws s (List.mem_of_mem_take hs)⟩
  rw [List.length_take] at hi
  obtain ⟨b, off, spot⟩ := a
  have hspot : spot = none := by
    have hc0 := hcell 0 (by omega)
    simpa [Addr.add] using World.cell?_spot hc0
  subst hspot
  have hc := hcell i (by omega)
  rw [List.getD_eq_getElem?_getD, List.getElem?_eq_getElem (by omega)] at hc
  have hc' : w.cell? ⟨b, off + i, none⟩ = some (.string ss[i]) := by
    by_cases hi0 : i = 0
    · subst hi0; simpa [Addr.add] using hc
    · simpa [Addr.add, hi0] using hc
  exact ⟨b, off, rfl, block_lt_of_cell hc', by rw [List.getElem_take]; exact hc'⟩

end Go.Proofs.YtfhpkcamigkmdaaGreatDoor.W
