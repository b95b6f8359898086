/-
  The size of a store that came in, as the exact laws reckon it: of its entries, levels, filters and times, from any number left.
  A slice of entries that came in, handed on: a copy in new memory.
  Appending a slice of entries to one of the call's own.
  Two runs as one, as the model joins them.
  RunJoin, the model's.
  Slices of numbers: copied, compared, marked.
  Contracts of the exact laws' helpers for a filter that came in: measuring and copying it. Each at every filter that can be read.
  Stores in memory of the call's own: levels and filters, rows of rows; copies of levels and filters that came in, as the exact laws make them.
-/
import Derived.Test.YtfhpkcamigkmdaaGreatDoorZAH
import Derived.Test.YtfhpkcamigkmdaaGreatDoorZAG
import Derived.Test.YtfhpkcamigkmdaaGreatDoorZAA
import Derived.Test.YtfhpkcamigkmdaaGreatDoorE2
import Derived.Test.YtfhpkcamigkmdaaGreatDoorJ5
import Derived.OwnWalk
import Derived.Laws.OwnMore
import Derived.Deep.AppendLies
namespace Go.Proofs.YtfhpkcamigkmdaaGreatDoor.W
open Go.RowKit K R

/-- how much is left, or that it is too much; if something is left then P -/
def SizedX (P : Prop) (w : World) (e : Ending) (w' : World) : Prop :=
  ∃ x : Int, e = .returned (.int .i64 x) ∧ -1 ≤ x ∧ x ≤ 1048576 ∧ (0 ≤ x → P) ∧ Below w.heap.size w w'
def smallE (l : List En) : Prop := l.length ≤ 1048576 ∧ ∀ e ∈ l, e.key.size ≤ 1048576
def fitE (l : List En) : Prop := ∀ e ∈ l, e.key.size ≤ maxLen

set_option maxHeartbeats 4000000 in
theorem szEnSx (w : World) (B n c : Nat) (A : Option Addr) (l : List En) (x : Int) (hx0 : 0 ≤ x) (hx1 : x ≤ 1048576) (hr : Ents w B A n l) (hB : B ≤ w.heap.size) (hn : n ≤ maxLen) (hf : fitE l) :
    Calls Tryz.prog 35 #[.slice A n c, .int .i64 x] w (SizedX (smallE l) w) := by
  have hlen := hr.len
  subst hlen
  unfold maxLen at hn
  have HR := Lib.hid hr
  have HF := Lib.hid hf
  clear hr hf
  obtain ⟨y, hy⟩ : ∃ y : Int, y = x - (l.length : Int) := ⟨_, rfl⟩
  have hw : IntKind.i64.wrap (x - (l.length : Int)) = y := by rw [hy]; exact i64_z _ (by omega) (by omega)
  by_cases h : y < 0
  · clear hy
    go_enter Tryz.func35, Tryz.ntmps35
    go_wp2
    go_ret
    exact ⟨-1, rfl, by omega, by omega, by omega, Below.refl _ _⟩
  · have HY := Lib.hid hy
    clear hy
    go_enter Tryz.func35, Tryz.ntmps35
    go_wp2_with fail
    go_loopw [1, 5] (fun s i wr => ∃ (k : Nat) (x : Int), k ≤ l.length ∧ i = .int .i64 (k : Nat) ∧ s = .int .i64 x ∧ 0 ≤ x ∧ x ≤ 1048576 ∧ (∀ i (h : i < l.length), i < k → l[i].key.size ≤ 1048576) ∧ Below w.heap.size w wr) (fun _ i _ => l.length - (intOf i).toNat)
    case atStart => exact ⟨0, y, Nat.zero_le _, rfl, rfl, by omega, by have := HY.out; omega, fun i h1 h2 => by omega, Below.refl _ _⟩
    case round =>
      obtain ⟨k, x, hk, rfl, rfl, hx0, hx1, hsm, hbl⟩ := hrel
      have HBL := Lib.hid hbl
      have HSM := Lib.hid hsm
      clear hbl hsm
      by_cases hlt : k < l.length
      · obtain ⟨kb, ko, hA, hkb, c0, c1, c2, c3⟩ := HR.out.cell k hlt
        subst hA
        have hkb' : kb < w.heap.size := Nat.lt_of_lt_of_le hkb hB
        have r0 := (HBL.out.cell (p := ⟨kb, ko + k * 4, none⟩) hkb').trans c0
        have r1 := (HBL.out.cell (p := ⟨kb, ko + k * 4 + 1, none⟩) hkb').trans c1
        have r2 := (HBL.out.cell (p := ⟨kb, ko + k * 4 + 2, none⟩) hkb').trans c2
        have r3 := (HBL.out.cell (p := ⟨kb, ko + k * 4 + 3, none⟩) hkb').trans c3
        have hks := HF.out _ (List.getElem_mem hlt)
        obtain ⟨x0, h0⟩ : ∃ y, y = l[k].key := ⟨_, rfl⟩
        obtain ⟨x1, h1⟩ : ∃ y, y = l[k].val := ⟨_, rfl⟩
        obtain ⟨x2, h2⟩ : ∃ y, y = l[k].gone := ⟨_, rfl⟩
        obtain ⟨x3, h3⟩ : ∃ y, y = l[k].time := ⟨_, rfl⟩
        rw [← h0] at r0 hks
        rw [← h1] at r1
        rw [← h2] at r2
        rw [← h3] at r3
        have H0 := Lib.hid h0
        have z0 : (0 : Int) ≤ (k : Int) := by omega
        have z1 : (k : Int) < (l.length : Int) := by omega
        obtain ⟨u, hu⟩ : ∃ u : Int, u = if x - (x0.size : Int) < 0 then -1 else x - (x0.size : Int) := ⟨_, rfl⟩
        have HZ := Lib.hid (show ∀ W : World, Calls Tryz.prog 91 #[.agg #[.string x0, .int .i64 x1, .bool x2, .int .i64 x3], .int .i64 x] W fun e w' => e = .returned (.int .i64 u) ∧ Below W.heap.size W w' from fun W => by rw [hu]; exact szEn x0 x1 x2 x3 x W hx0 hx1 hks)
        have HU := Lib.hid hu
        clear hu h0 h1 h2 h3 c0 c1 c2 c3
        by_cases hneg : u < 0
        · go_wp2_with (go_at_call 91; refine Calls.mono (HZ.out _) ?_; rintro e w5 ⟨rfl, hb5⟩; have HB5 := Lib.hid (HBL.out.trans (hb5.mono HBL.out.size)); clear hb5)
          go_ret
          exact ⟨-1, rfl, by omega, by omega, by omega, HB5.out⟩
        · have hu2 : x0.size ≤ 1048576 ∧ u ≤ 1048576 := by
            have := HU.out
            split at this <;> omega
          go_wp2_with (go_at_call 91; refine Calls.mono (HZ.out _) ?_; rintro e w5 ⟨rfl, hb5⟩; have HB5 := Lib.hid (HBL.out.trans (hb5.mono HBL.out.size)); clear hb5)
          go_roundw
          case rel =>
            refine ⟨k + 1, u, by omega, by go_num, rfl, by omega, hu2.2, fun i hi h => ?_, HB5.out⟩
            by_cases e : i = k
            · subst e; rw [← H0.out]; exact hu2.1
            · exact HSM.out i hi (by omega)
          case measure => simp [intOf]; omega
      · have hke : k = l.length := by omega
        subst hke
        go_wp2
        go_ret
        refine ⟨x, rfl, by omega, by omega, fun _ => ⟨by have := HY.out; omega, fun e he => ?_⟩, HBL.out⟩
        obtain ⟨i, hi, rfl⟩ := List.getElem_of_mem he
        exact HSM.out i hi hi

set_option maxHeartbeats 4000000 in
theorem szEnSS (w : World) (B n c : Nat) (A : Option Addr) (ls : List (List En)) (x : Int) (hx0 : 0 ≤ x) (hx1 : x ≤ 1048576) (hr : Lvls w B A n ls) (hB : B ≤ w.heap.size) (hn : n ≤ maxLen) (hf : ∀ r ∈ ls, fitE r) :
    Calls Tryz.prog 36 #[.slice A n c, .int .i64 x] w (SizedX (ls.length ≤ 1048576 ∧ ∀ r ∈ ls, smallE r) w) := by
  have hlen := hr.len
  subst hlen
  unfold maxLen at hn
  have HR := Lib.hid hr
  have HF := Lib.hid hf
  clear hr hf
  obtain ⟨y, hy⟩ : ∃ y : Int, y = x - (ls.length : Int) := ⟨_, rfl⟩
  have hw : IntKind.i64.wrap (x - (ls.length : Int)) = y := by rw [hy]; exact i64_z _ (by omega) (by omega)
  by_cases h : y < 0
  · clear hy
    go_enter Tryz.func36, Tryz.ntmps36
    go_wp2
    go_ret
    exact ⟨-1, rfl, by omega, by omega, by omega, Below.refl _ _⟩
  · have HY := Lib.hid hy
    clear hy
    go_enter Tryz.func36, Tryz.ntmps36
    go_wp2_with fail
    go_loopw [1, 5] (fun s i wr => ∃ (k : Nat) (x : Int), k ≤ ls.length ∧ i = .int .i64 (k : Nat) ∧ s = .int .i64 x ∧ 0 ≤ x ∧ x ≤ 1048576 ∧ (∀ i (h : i < ls.length), i < k → smallE ls[i]) ∧ Below w.heap.size w wr) (fun _ i _ => ls.length - (intOf i).toNat)
    case atStart => exact ⟨0, y, Nat.zero_le _, rfl, rfl, by omega, by have := HY.out; omega, fun i h1 h2 => by omega, Below.refl _ _⟩
    case round =>
      obtain ⟨k, x, hk, rfl, rfl, hx0, hx1, hsm, hbl⟩ := hrel
      have HBL := Lib.hid hbl
      have HSM := Lib.hid hsm
      clear hbl hsm
      by_cases hlt : k < ls.length
      · obtain ⟨kb, ko, A', c', hA, hkb, c0, he, hc1, hc2⟩ := (HR.out.below HBL.out hB).cell k hlt
        subst hA
        have z0 : (0 : Int) ≤ (k : Int) := by omega
        have z1 : (k : Int) < (ls.length : Int) := by omega
        obtain ⟨r, h0⟩ : ∃ y, y = ls[k] := ⟨_, rfl⟩
        have hfr := HF.out _ (List.getElem_mem hlt)
        rw [← h0] at c0 he hc1 hfr
        have H0 := Lib.hid h0
        have hsz := HBL.out.size
        have HZ := Lib.hid (szEnSx wr B r.length c' A' r x hx0 hx1 he (by omega) (by omega) hfr)
        clear h0 he hfr
        go_wp2_with fail
        go_at_call 35
        refine Calls.mono HZ.out ?_
        rintro e w5 ⟨u, rfl, hu0, hu1, hu2, hb5⟩
        have HB5 := Lib.hid (HBL.out.trans (hb5.mono HBL.out.size))
        have HU := Lib.hid hu2
        clear hb5 hu2
        by_cases hneg : u < 0
        · go_wp2
          go_ret
          exact ⟨-1, rfl, by omega, by omega, by omega, HB5.out⟩
        · go_wp2
          go_roundw
          case rel =>
            refine ⟨k + 1, u, by omega, by go_num, rfl, by omega, hu1, fun i hi h => ?_, HB5.out⟩
            by_cases e : i = k
            · subst e; rw [← H0.out]; exact HU.out (by omega)
            · exact HSM.out i hi (by omega)
          case measure => simp [intOf]; omega
      · have hke : k = ls.length := by omega
        subst hke
        go_wp2
        go_ret
        refine ⟨x, rfl, by omega, by omega, fun _ => ⟨by have := HY.out; omega, fun e he => ?_⟩, HBL.out⟩
        obtain ⟨i, hi, rfl⟩ := List.getElem_of_mem he
        exact HSM.out i hi hi

def smallS (x : Sf) : Prop := (x.letters.size ≤ 1048576 ∧ x.more.size ≤ 1048576 ∧ x.first.size ≤ 1048576) ∧ x.rests.length ≤ 1048576 ∧ ∀ s ∈ x.rests, s.size ≤ 1048576
def fitS (x : Sf) : Prop := x.letters.size ≤ maxLen ∧ x.more.size ≤ maxLen ∧ x.first.size ≤ maxLen ∧ Fit x.rests

set_option maxHeartbeats 4000000 in
theorem szSvx (w : World) (B n c : Nat) (A : Option Addr) (L M_ F : ByteArray) (keep : Int) (l : List ByteArray) (x : Int) (hx0 : 0 ≤ x) (hx1 : x ≤ 1048576) (hL : L.size ≤ maxLen) (hM : M_.size ≤ maxLen) (hF : F.size ≤ maxLen) (hr : Strs w B A n l) (hB : B ≤ w.heap.size) (hn : n ≤ maxLen) (hf : Fit l) :
    Calls Tryz.prog 92 #[.agg #[.string L, .string M_, .string F, .slice A n c, .int .i64 keep], .int .i64 x] w (SizedX ((L.size ≤ 1048576 ∧ M_.size ≤ 1048576 ∧ F.size ≤ 1048576) ∧ l.length ≤ 1048576 ∧ ∀ s ∈ l, s.size ≤ 1048576) w) := by
  unfold maxLen at hL hM hF
  obtain ⟨W0, hW0⟩ : ∃ W0, W0 = w.alloc (.cells #[.string L, .string M_, .string F, .slice A n c, .int .i64 keep] 108) := ⟨_, rfl⟩
  have hbw : Below w.heap.size w W0 := by rw [hW0]; exact (Below.refl _ _).alloc (Nat.le_refl _) _
  have HB := Lib.hid hbw
  have HSZ := Lib.hid (show ∀ x : Nat, x ≤ 1048576 → Calls Tryz.prog 132 #[.slice A n c, .int .i64 (x : Nat)] W0 (Sized x l W0) from fun x hx => sizeS W0 w.heap.size n c x A l (hr.below hbw hB |>.more hB) hn hf (by omega))
  rw [hW0] at HSZ HB
  clear hr hf hbw hW0
  obtain ⟨y1, hy1⟩ : ∃ y : Int, y = x - (L.size : Int) := ⟨_, rfl⟩
  have hw1 : IntKind.i64.wrap (x - (L.size : Int)) = y1 := by rw [hy1]; exact i64_z _ (by omega) (by omega)
  by_cases g1 : y1 < 0
  · clear hy1
    go_enter Tryz.func92, Tryz.ntmps92
    go_wp2
    go_ret
    exact ⟨-1, rfl, by omega, by omega, fun h => by omega, HB.out⟩
  obtain ⟨y2, hy2⟩ : ∃ y : Int, y = y1 - (M_.size : Int) := ⟨_, rfl⟩
  have hw2 : IntKind.i64.wrap (y1 - (M_.size : Int)) = y2 := by rw [hy2]; exact i64_z _ (by omega) (by omega)
  by_cases g2 : y2 < 0
  · clear hy1 hy2
    go_enter Tryz.func92, Tryz.ntmps92
    go_wp2
    go_ret
    exact ⟨-1, rfl, by omega, by omega, fun h => by omega, HB.out⟩
  obtain ⟨y3, hy3⟩ : ∃ y : Int, y = y2 - (F.size : Int) := ⟨_, rfl⟩
  have hw3 : IntKind.i64.wrap (y2 - (F.size : Int)) = y3 := by rw [hy3]; exact i64_z _ (by omega) (by omega)
  by_cases g3 : y3 < 0
  · clear hy1 hy2 hy3
    go_enter Tryz.func92, Tryz.ntmps92
    go_wp2
    go_ret
    exact ⟨-1, rfl, by omega, by omega, fun h => by omega, HB.out⟩
  · obtain ⟨z, hz⟩ : ∃ z : Nat, y3 = (z : Int) := ⟨y3.toNat, by omega⟩
    have hzs : z ≤ 1048576 := by omega
    have hb1 : L.size ≤ 1048576 ∧ M_.size ≤ 1048576 ∧ F.size ≤ 1048576 := by omega
    have HZ := Lib.hid (HSZ.out z hzs)
    rw [← hz] at HZ
    clear hy1 hy2 hy3 hz
    go_enter Tryz.func92, Tryz.ntmps92
    go_wp2_with fail
    go_at_call 132
    refine HZ.out.mono ?_
    rintro e w1 ⟨y, rfl, hy0, hyx, hy2, rfl⟩
    by_cases hneg : y < 0
    · clear hy2
      go_wp2
      go_ret
      exact ⟨-1, rfl, by omega, by omega, fun h => by omega, HB.out⟩
    · have hy3 := Lib.hid (hy2 (by omega))
      clear hy2
      go_wp2
      go_ret
      exact ⟨y, rfl, by omega, by omega, fun _ => ⟨hb1, by have := hy3.out.1; omega, fun s hs => by have := hy3.out.2 s hs; omega⟩, HB.out⟩

set_option maxHeartbeats 4000000 in
theorem szSvS (w : World) (B n c : Nat) (A : Option Addr) (ss : List Sf) (x : Int) (hx0 : 0 ≤ x) (hx1 : x ≤ 1048576) (hr : Svs w B A n ss) (hB : B ≤ w.heap.size) (hn : n ≤ maxLen) (hf : ∀ r ∈ ss, fitS r) :
    Calls Tryz.prog 37 #[.slice A n c, .int .i64 x] w (SizedX (ss.length ≤ 1048576 ∧ ∀ r ∈ ss, smallS r) w) := by
  have hlen := hr.len
  subst hlen
  unfold maxLen at hn
  have HR := Lib.hid hr
  have HF := Lib.hid hf
  clear hr hf
  obtain ⟨y, hy⟩ : ∃ y : Int, y = x - (ss.length : Int) := ⟨_, rfl⟩
  have hw : IntKind.i64.wrap (x - (ss.length : Int)) = y := by rw [hy]; exact i64_z _ (by omega) (by omega)
  by_cases h : y < 0
  · clear hy
    go_enter Tryz.func37, Tryz.ntmps37
    go_wp2
    go_ret
    exact ⟨-1, rfl, by omega, by omega, by omega, Below.refl _ _⟩
  · have HY := Lib.hid hy
    clear hy
    go_enter Tryz.func37, Tryz.ntmps37
    go_wp2_with fail
    go_loopw [1, 5] (fun s i wr => ∃ (k : Nat) (x : Int), k ≤ ss.length ∧ i = .int .i64 (k : Nat) ∧ s = .int .i64 x ∧ 0 ≤ x ∧ x ≤ 1048576 ∧ (∀ i (h : i < ss.length), i < k → smallS ss[i]) ∧ Below w.heap.size w wr) (fun _ i _ => ss.length - (intOf i).toNat)
    case atStart => exact ⟨0, y, Nat.zero_le _, rfl, rfl, by omega, by have := HY.out; omega, fun i h1 h2 => by omega, Below.refl _ _⟩
    case round =>
      obtain ⟨k, x, hk, rfl, rfl, hx0, hx1, hsm, hbl⟩ := hrel
      have HBL := Lib.hid hbl
      have HSM := Lib.hid hsm
      clear hbl hsm
      by_cases hlt : k < ss.length
      · obtain ⟨kb, ko, A', c', hA, hkb, c0, c1, c2, c3, c4, he, hc1, hc2⟩ := (HR.out.below HBL.out hB).cell k hlt
        subst hA
        have z0 : (0 : Int) ≤ (k : Int) := by omega
        have z1 : (k : Int) < (ss.length : Int) := by omega
        obtain ⟨r, h0⟩ : ∃ y, y = ss[k] := ⟨_, rfl⟩
        have hfr := HF.out _ (List.getElem_mem hlt)
        rw [← h0] at c0 c1 c2 c3 c4 he hc1 hfr
        have H0 := Lib.hid h0
        clear h0
        obtain ⟨L, M_, F, l, keep⟩ := r
        have hsz := HBL.out.size
        have HZ := Lib.hid (szSvx wr B l.length c' A' L M_ F keep l x hx0 hx1 hfr.1 hfr.2.1 hfr.2.2.1 he (by omega) (by simp at hc1; omega) hfr.2.2.2)
        clear he hfr hc1
        go_wp2_with fail
        go_at_call 92
        refine Calls.mono HZ.out ?_
        rintro e w5 ⟨u, rfl, hu0, hu1, hu2, hb5⟩
        have HB5 := Lib.hid (HBL.out.trans (hb5.mono HBL.out.size))
        have HU := Lib.hid hu2
        clear hb5 hu2
        by_cases hneg : u < 0
        · go_wp2
          go_ret
          exact ⟨-1, rfl, by omega, by omega, by omega, HB5.out⟩
        · go_wp2
          go_roundw
          case rel =>
            refine ⟨k + 1, u, by omega, by go_num, rfl, by omega, hu1, fun i hi h => ?_, HB5.out⟩
            by_cases e : i = k
            · subst e; rw [← H0.out]; exact HU.out (by omega)
            · exact HSM.out i hi (by omega)
          case measure => simp [intOf]; omega
      · have hke : k = ss.length := by omega
        subst hke
        go_wp2
        go_ret
        refine ⟨x, rfl, by omega, by omega, fun _ => ⟨by have := HY.out; omega, fun e he => ?_⟩, HBL.out⟩
        obtain ⟨i, hi, rfl⟩ := List.getElem_of_mem he
        exact HSM.out i hi hi

set_option maxHeartbeats 1000000 in
theorem szNx (w : World) (n c : Nat) (A : Option Addr) (x : Int) (hx0 : 0 ≤ x) (hx1 : x ≤ 1048576) (hn : n ≤ maxLen) :
    Calls Tryz.prog 38 #[.slice A n c, .int .i64 x] w (SizedX (n ≤ 1048576) w) := by
  unfold maxLen at hn
  obtain ⟨y, hy⟩ : ∃ y : Int, y = x - (n : Int) := ⟨_, rfl⟩
  have hw : IntKind.i64.wrap (x - (n : Int)) = y := by rw [hy]; exact i64_z _ (by omega) (by omega)
  by_cases h : y < 0
  · clear hy
    go_enter Tryz.func38, Tryz.ntmps38
    go_wp2
    go_ret
    exact ⟨-1, rfl, by omega, by omega, by omega, Below.refl _ _⟩
  · have HY := Lib.hid hy
    clear hy
    go_enter Tryz.func38, Tryz.ntmps38
    go_wp2
    go_ret
    have hy := HY.out
    exact ⟨y, rfl, by omega, by omega, by omega, Below.refl _ _⟩

/-- all parts of a store are small -/
def smallSt (s : Sto) : Prop := smallE s.top ∧ (s.levels.length ≤ 1048576 ∧ ∀ r ∈ s.levels, smallE r) ∧ (s.sieves.length ≤ 1048576 ∧ ∀ x ∈ s.sieves, smallS x) ∧ s.times.length ≤ 1048576
def fitSt (s : Sto) : Prop := fitE s.top ∧ (∀ r ∈ s.levels, fitE r) ∧ ∀ x ∈ s.sieves, fitS x

set_option maxHeartbeats 4000000 in
theorem szSt (w : World) (A0 A1 A2 A5 : Option Addr) (c0 c1 c2 c5 : Nat) (s : Sto) (hr : StM w w.heap.size A0 A1 A2 A5 c0 c1 c2 c5 s) (hf : fitSt s) :
    Calls Tryz.prog 11 #[stV A0 A1 A2 A5 c0 c1 c2 c5 s, .int .i64 1048576] w (SizedX (smallSt s) w) := by
  obtain ⟨top, levels, sieves, keep, time, times⟩ := s
  obtain ⟨h0, h1, h2, h5, b0, b1, b2, b5⟩ := hr
  obtain ⟨f0, f1, f2⟩ := hf
  simp only [stV] at *
  obtain ⟨W0, hW0⟩ : ∃ W0, W0 = w.alloc (.cells #[.slice A0 top.length c0, .slice A1 levels.length c1, .slice A2 sieves.length c2, .int .i64 keep, .int .i64 time, .slice A5 times.length c5] 27) := ⟨_, rfl⟩
  have hbw : Below w.heap.size w W0 := by rw [hW0]; exact (Below.refl _ _).alloc (Nat.le_refl _) _
  have hbox : W0.heap[w.heap.size]? = some (.cells #[.slice A0 top.length c0, .slice A1 levels.length c1, .slice A2 sieves.length c2, .int .i64 keep, .int .i64 time, .slice A5 times.length c5] 27 (0, 0)) := by rw [hW0]; exact heap_alloc_new _ _
  have hs0 : W0.heap.size = w.heap.size + 1 := by rw [hW0]; simp
  have HB := Lib.hid hbw
  have HX := Lib.hid hbox
  have HS := Lib.hid hs0
  have C1 := Lib.hid (szEnSx W0 w.heap.size top.length c0 A0 top 1048576 (by omega) (by omega) (h0.below hbw (Nat.le_refl _)) hbw.size (Nat.le_trans b0.1 b0.2) f0)
  have C2 := Lib.hid (show ∀ (W : World) (x : Int), Below W0.heap.size W0 W → 0 ≤ x → x ≤ 1048576 → Calls Tryz.prog 36 #[.slice A1 levels.length c1, .int .i64 x] W (SizedX (levels.length ≤ 1048576 ∧ ∀ r ∈ levels, smallE r) W) from fun W x hW h3 h4 => szEnSS W w.heap.size levels.length c1 A1 levels x h3 h4 ((h1.below hbw (Nat.le_refl _)).below (hW.mono hbw.size) (Nat.le_refl _)) (Nat.le_trans hbw.size hW.size) (Nat.le_trans b1.1 b1.2) f1)
  have C3 := Lib.hid (show ∀ (W : World) (x : Int), Below W0.heap.size W0 W → 0 ≤ x → x ≤ 1048576 → Calls Tryz.prog 37 #[.slice A2 sieves.length c2, .int .i64 x] W (SizedX (sieves.length ≤ 1048576 ∧ ∀ r ∈ sieves, smallS r) W) from fun W x hW h3 h4 => szSvS W w.heap.size sieves.length c2 A2 sieves x h3 h4 ((h2.below hbw (Nat.le_refl _)).below (hW.mono hbw.size) (Nat.le_refl _)) (Nat.le_trans hbw.size hW.size) (Nat.le_trans b2.1 b2.2) f2)
  have C4 := Lib.hid (show ∀ (W : World) (x : Int), 0 ≤ x → x ≤ 1048576 → Calls Tryz.prog 38 #[.slice A5 times.length c5, .int .i64 x] W (SizedX (times.length ≤ 1048576) W) from fun W x h3 h4 => szNx W times.length c5 A5 x h3 h4 (Nat.le_trans b5.1 b5.2))
  clear h0 h1 h2 h5 b0 b1 b2 b5 f0 f1 f2 hbw hbox hs0
  have HW0 := Lib.hid hW0
  clear hW0
  go_enter Tryz.func11, Tryz.ntmps11
  go_wp2_with fail
  rw [← HW0.out]
  go_at_call 35
  refine Calls.mono C1.out ?_
  rintro e w1 ⟨x1, rfl, p1, q1, r1, d1⟩
  have D1 := Lib.hid d1
  have R1 := Lib.hid r1
  have k1 : w1.heap[w.heap.size]? = some (.cells #[.slice A0 top.length c0, .slice A1 levels.length c1, .slice A2 sieves.length c2, .int .i64 keep, .int .i64 time, .slice A5 times.length c5] 27 (0, 0)) := by rw [D1.out.block _ (by have := HS.out; omega)]; exact HX.out
  have K1 := Lib.hid k1
  have e1 : w1.cell? ⟨w.heap.size, 1, none⟩ = some (.slice A1 levels.length c1) := by rw [cell_of_row _ _ _ _ _ _ k1]; rfl
  clear d1 r1 k1
  by_cases n1 : x1 < 0
  · go_wp2
    go_ret
    exact ⟨-1, rfl, by omega, by omega, by omega, HB.out.trans (D1.out.mono HB.out.size)⟩
  go_wp2_with fail
  go_at_call 36
  refine Calls.mono (C2.out w1 x1 D1.out (by omega) q1) ?_
  rintro e w2 ⟨x2, rfl, p2, q2, r2, d2⟩
  have D2 := Lib.hid (D1.out.trans (d2.mono D1.out.size))
  have R2 := Lib.hid r2
  have k2 : w2.heap[w.heap.size]? = some (.cells #[.slice A0 top.length c0, .slice A1 levels.length c1, .slice A2 sieves.length c2, .int .i64 keep, .int .i64 time, .slice A5 times.length c5] 27 (0, 0)) := by rw [D2.out.block _ (by have := HS.out; omega)]; exact HX.out
  have e2 : w2.cell? ⟨w.heap.size, 2, none⟩ = some (.slice A2 sieves.length c2) := by rw [cell_of_row _ _ _ _ _ _ k2]; rfl
  clear d2 r2 k2
  by_cases n2 : x2 < 0
  · go_wp2
    go_ret
    exact ⟨-1, rfl, by omega, by omega, by omega, HB.out.trans (D2.out.mono HB.out.size)⟩
  go_wp2_with fail
  go_at_call 37
  refine Calls.mono (C3.out w2 x2 D2.out (by omega) q2) ?_
  rintro e w3 ⟨x3, rfl, p3, q3, r3, d3⟩
  have D3 := Lib.hid (D2.out.trans (d3.mono D2.out.size))
  have R3 := Lib.hid r3
  have k3 : w3.heap[w.heap.size]? = some (.cells #[.slice A0 top.length c0, .slice A1 levels.length c1, .slice A2 sieves.length c2, .int .i64 keep, .int .i64 time, .slice A5 times.length c5] 27 (0, 0)) := by rw [D3.out.block _ (by have := HS.out; omega)]; exact HX.out
  have e3 : w3.cell? ⟨w.heap.size, 5, none⟩ = some (.slice A5 times.length c5) := by rw [cell_of_row _ _ _ _ _ _ k3]; rfl
  clear d3 r3 k3
  by_cases n3 : x3 < 0
  · go_wp2
    go_ret
    exact ⟨-1, rfl, by omega, by omega, by omega, HB.out.trans (D3.out.mono HB.out.size)⟩
  go_wp2_with fail
  go_at_call 38
  refine Calls.mono (C4.out w3 x3 (by omega) q3) ?_
  rintro e w4 ⟨x4, rfl, p4, q4, r4, d4⟩
  have D4 := Lib.hid (D3.out.trans (d4.mono D3.out.size))
  have R4 := Lib.hid r4
  clear d4 r4
  by_cases n4 : x4 < 0
  · go_wp2
    go_ret
    exact ⟨-1, rfl, by omega, by omega, by omega, HB.out.trans (D4.out.mono HB.out.size)⟩
  · go_wp2
    go_ret
    exact ⟨x4, rfl, by omega, by omega, fun _ => ⟨R1.out (by omega), R2.out (by omega), R3.out (by omega), R4.out (by omega)⟩, HB.out.trans (D4.out.mono HB.out.size)⟩

end Go.Proofs.YtfhpkcamigkmdaaGreatDoor.W
namespace Go.Proofs.YtfhpkcamigkmdaaGreatDoor.W
open Go.RowKit K R

theorem ent_info : (Tryz.prog.info? 83).map (fun i => (i.zero, i.size, i.bytes)) = some (some (.agg #[.string ⟨#[]⟩, .int .i64 0, .bool false, .int .i64 0]), 4, 40) := by kernel_rfl
theorem made_E (n : Nat) : (madeCells #[.string ⟨#[]⟩, .int .i64 0, .bool false, .int .i64 0] (n * 4)).toList = cellsE (List.replicate n blankE) := by
  apply List.ext_getElem?
  intro m
  by_cases hm : m < n * 4
  · have hi : m / 4 < (List.replicate n blankE).length := by rw [List.length_replicate]; omega
    have hr := cellsE_at hi (m % 4) (by omega)
    rw [show m / 4 * 4 + m % 4 = m by omega, List.getElem_replicate] at hr
    rw [hr]
    unfold madeCells
    simp only [Array.toList_map, List.getElem?_map, Array.toList_range, List.getElem?_range hm, Option.map_some]
    have h4 : m % 4 = 0 ∨ m % 4 = 1 ∨ m % 4 = 2 ∨ m % 4 = 3 := by omega
    show some ((#[Value.string ⟨#[]⟩, .int .i64 0, .bool false, .int .i64 0] : Array Value)[m % 4]!) = _
    rcases h4 with h | h | h | h <;> rw [h] <;> rfl
  · rw [List.getElem?_eq_none (by rw [Array.length_toList, size_madeCells]; omega), List.getElem?_eq_none (by rw [cellsE_len, List.length_replicate]; omega)]
theorem rowBelow {E : TypeId} {sz : Nat} {w w' : World} {base n : Nat} {v : Value} {cs : List Value} (h : w.ownsRow base E sz v n cs) (hb : Below w.heap.size w w') : w'.ownsRow base E sz v n cs := by
  refine ⟨h.1, ?_⟩
  rcases h.2 with hn | ⟨g, cap, cur, hv, hbg, hg, rest⟩
  · exact .inl hn
  · exact .inr ⟨g, cap, cur, hv, hbg, by rw [hb.block g (Array.getElem?_eq_some_iff.1 hg).1]; exact hg, rest⟩
/-- a new slice of entries -/
def NewE (w : World) (l : List En) (e : Ending) (w' : World) : Prop := ∃ g c, e = .returned (.slice (some ⟨g, 0, none⟩) l.length c) ∧ w'.ownsRow w.heap.size 83 4 (.slice (some ⟨g, 0, none⟩) l.length c) l.length (cellsE l) ∧ Below w.heap.size w w'

set_option maxHeartbeats 4000000 in
theorem copyE (w : World) (B n c : Nat) (A : Option Addr) (l : List En) (hr : Ents w B A n l) (hB : B ≤ w.heap.size) (hn : n ≤ 1048576) :
    Calls Tryz.prog 42 #[.slice A n c] w (NewE w l) := by
  have hlen := hr.len
  subst hlen
  have HR := Lib.hid hr
  clear hr
  obtain ⟨i0, hi, hz0, hz1, hz2⟩ := info_parts ent_info
  go_enter Tryz.func42, Tryz.ntmps42
  go_wp2_with (at_make; refine wpList_make_full w rfl (.tmp 6) (.tmp 6) 29 rfl w.heap.size 83 i0 (.agg #[.string ⟨#[]⟩, .int .i64 0, .bool false, .int .i64 0]) 4 Tryz.underlying29 hi hz0 hz1 .i64 .i64 _ _ l.length rfl rfl rfl rfl (by rw [hz2]; omega) (by unfold maxLen; omega) (Nat.le_refl _) ?_; intro w1 ho1 hg1)
  have HO1 := Lib.hid (show w1.ownsRow w.heap.size 83 4 (.slice (some ⟨w.heap.size, 0, none⟩) l.length l.length) l.length (cellsE (List.replicate l.length blankE)) by rw [← made_E]; exact ho1)
  have HB1 := Lib.hid ((Below.refl w.heap.size w).grown hg1 (Nat.le_refl _) (fun k e => by cases e))
  clear ho1 hg1 hi hz0 hz1 hz2
  go_wp2_with fail
  go_loopw [4] (fun i wr => ∃ k : Nat, k ≤ l.length ∧ i = .int .i64 (k : Nat) ∧ wr.ownsRow w.heap.size 83 4 (.slice (some ⟨w.heap.size, 0, none⟩) l.length l.length) l.length (cellsE (l.take k ++ List.replicate (l.length - k) blankE)) ∧ Below w.heap.size w wr) (fun i _ => l.length - (intOf i).toNat)
  case atStart => exact ⟨0, Nat.zero_le _, rfl, by simpa using HO1.out, HB1.out⟩
  case round =>
    obtain ⟨k, hk, rfl, ho, hb⟩ := hrel
    have HO := Lib.hid ho
    have HB := Lib.hid hb
    clear ho hb HO1 HB1
    by_cases hlt : k < l.length
    · obtain ⟨kb, ko, hA, hbB, c0, c1, c2, c3⟩ := (HR.out.below HB.out hB).cell k hlt
      subst hA
      obtain ⟨x0, h0⟩ : ∃ y, y = l[k].key := ⟨_, rfl⟩
      obtain ⟨x1, h1⟩ : ∃ y, y = l[k].val := ⟨_, rfl⟩
      obtain ⟨x2, h2⟩ : ∃ y, y = l[k].gone := ⟨_, rfl⟩
      obtain ⟨x3, h3⟩ : ∃ y, y = l[k].time := ⟨_, rfl⟩
      rw [← h0] at c0
      rw [← h1] at c1
      rw [← h2] at c2
      rw [← h3] at c3
      have z0 : (0 : Int) ≤ (k : Int) := by omega
      have z1 : (k : Int) < (l.length : Int) := by omega
      have hwlt := (World.ownsRow.lt HO.out w.heap.size rfl).2
      have HT := Lib.hid (show Calls Tryz.prog 96 #[.agg #[.string x0, .int .i64 x1, .bool x2, .int .i64 x3]] wr fun e w' => e = .returned (.agg #[.string x0, .int .i64 x1, .bool x2, .int .i64 x3]) ∧ Below wr.heap.size wr w' from toEn x0 x1 x2 x3 wr)
      have HE := Lib.hid (show l[k] = ⟨x0, x1, x2, x3⟩ by rw [h0, h1, h2, h3])
      clear h0 h1 h2 h3
      go_wp2_with fail
      go_at_call 96
      refine HT.out.mono ?_
      rintro e w5 ⟨rfl, hb5⟩
      have HO5 := Lib.hid (rowBelow HO.out hb5)
      have HB5 := Lib.hid (HB.out.trans (hb5.mono HB.out.size))
      have hll : k < (l.take k ++ List.replicate (l.length - k) blankE).length := by rw [List.length_append, List.length_take, List.length_replicate]; omega
      clear hb5
      have q0 := rowGet HO5.out (i := k * 4) (by rw [show k * 4 = k * 4 + 0 from rfl, cellsE_at hll 0 (by omega)]; rfl)
      have q1 := rowGet HO5.out (i := k * 4 + 1) (by rw [cellsE_at hll 1 (by omega)]; rfl)
      have q2 := rowGet HO5.out (i := k * 4 + 2) (by rw [cellsE_at hll 2 (by omega)]; rfl)
      have q3 := rowGet HO5.out (i := k * 4 + 3) (by rw [cellsE_at hll 3 (by omega)]; rfl)
      have f0 := rowFree HO5.out (k * 4)
      have f1 := rowFree HO5.out (k * 4 + 1)
      have f2 := rowFree HO5.out (k * 4 + 2)
      have f3 := rowFree HO5.out (k * 4 + 3)
      have hst := cellsE_set hll ⟨x0, x1, x2, x3⟩
      rw [← HE.out, copyE_step hlt, HE.out] at hst
      have HST := Lib.hid hst
      clear hst c0 c1 c2 c3
      go_wp2
      go_roundw
      case rel =>
        refine ⟨k + 1, by omega, by go_num, ?_, (((HB5.out.setCell (p := ⟨w.heap.size, k * 4, none⟩) (Nat.le_refl _) _).setCell (p := ⟨w.heap.size, k * 4 + 1, none⟩) (Nat.le_refl _) _).setCell (p := ⟨w.heap.size, k * 4 + 2, none⟩) (Nat.le_refl _) _).setCell (p := ⟨w.heap.size, k * 4 + 3, none⟩) (Nat.le_refl _) _⟩
        rw [← HST.out]
        exact rowSet (rowSet (rowSet (rowSet HO5.out (k * 4) _) (k * 4 + 1) _) (k * 4 + 2) _) (k * 4 + 3) _
      case measure => simp [intOf]; omega
    · have hke : k = l.length := by omega
      subst hke
      go_wp2
      go_ret
      exact ⟨_, _, rfl, by simpa using HO.out, HB.out⟩

end Go.Proofs.YtfhpkcamigkmdaaGreatDoor.W
namespace Go.Proofs.YtfhpkcamigkmdaaGreatDoor.W
open Go.RowKit K R

/-- appending nothing changes nothing -/
theorem run_app_nilE (w : World) (base : Nat) (v : Value) (l : List En) (hown : OwnE w base v l) (A2 : Option Addr) (c2 : Nat) (ty : TypeId) :
    (Builtin.append_ #[29, 29] ty #[v, .slice A2 0 c2]).run Tryz.prog w = .ok v w := by
  obtain ⟨i0, hi, hz0, hz1, hz2⟩ := info_parts ent_info
  rcases hown.2 with ⟨rfl, _⟩ | ⟨g, cap, cur, rfl, _, _, hnc, _⟩
  · cases A2 <;> simp [Builtin.append_, run_underlying Tryz.underlying29, sizeOf, typeInfo, hi, Builtin.lenOf, Builtin.firstCells, loadCells, loadCellsFrom]
  · cases A2 <;> simp [Builtin.append_, run_underlying Tryz.underlying29, sizeOf, typeInfo, hi, Builtin.lenOf, Builtin.firstCells, hnc, storeCells, loadCells, loadCellsFrom]
theorem cellsE_app (a b : List En) : cellsE (a ++ b) = cellsE a ++ cellsE b := by unfold cellsE; rw [List.flatMap_append]
theorem cellsE_one {l : List En} {u : Value} (h : u ∈ cellsE l) : u.oneCell' = true := by
  unfold cellsE at h
  rw [List.mem_flatMap] at h
  obtain ⟨e, -, h⟩ := h
  simp [enC] at h
  rcases h with rfl | rfl | rfl | rfl <;> rfl
/-- append of a slice of entries that can be read -/
theorem app_ens {ops : Array Oper} {rest : List Oper} {o : Oper} {a : Act} {Q : Exit → Act → World → Prop} (hgd : o.guard = none) (s x : Operand)
    (ho : o.op = .call { callee := .builtin .append, args := #[s, x], argTypes := #[29, 29] })
    (w : World) (base : Nat) (v : Value) (l : List En) (hs : a.eval s = v) (hown : OwnE w base v l) (B m cc : Nat) (A2 : Option Addr) (l2 : List En)
    (hx : a.eval x = .slice A2 m cc) (hr : Ents w B A2 m l2) (hl : l.length + m ≤ 4398046511) (hbase : base ≤ w.heap.size)
    (h : ∀ v' w', OwnE w' base v' (l ++ l2) → w.grownBy w' v.ownBlock → wpList Tryz.prog ops Q rest (a.put o.dst v') w') : wpList Tryz.prog ops Q (o :: rest) a w := by
  have hlen := hr.len
  refine wpList_step fun K hK => ?_
  rw [if_pos (by simp [Region.wanted, hgd])]
  by_cases hm : m = 0
  · subst hm
    have : l2 = [] := List.eq_nil_of_length_eq_zero hlen
    subst this
    have hrun := run_app_nilE w base v l hown A2 cc o.type
    unfold Oper.wp execOp
    simp only [ho, resolve, invoke, builtin, Sem.run_bind, Sem.run_pure, Result.andThen_ok, List.map_toArray, List.map_cons, List.map_nil, hs, hx, hrun]
    exact hK _ _ (h v w (by rw [List.append_nil]; exact hown) (World.grownBy.refl w _))
  · obtain ⟨b, off, hA, _⟩ := hr.cell 0 (by omega)
    subst hA
    obtain ⟨i0, hi, hz0, hz1, hz2⟩ := info_parts ent_info
    refine wp_append_lies w s x _ ho base _ i0 (.agg #[.string ⟨#[]⟩, .int .i64 0, .bool false, .int .i64 0]) 4 40 Tryz.underlying29 hi hz0 hz1 hz2 rfl (by decide) v l.length (cellsE l) hs hown ⟨b, off, none⟩ m cc (cellsE l2) hx (by rw [cellsE_len, hlen]) ?_ ?_ (by omega) ?_ ?_ hbase _ rfl ?_
    · intro j u hj
      have hjl : j < l2.length * 4 := by
        have := (List.getElem?_eq_some_iff.mp hj).1
        rw [cellsE_len] at this; exact this
      have hi' : j / 4 < l2.length := by omega
      have hat := cellsE_at hi' (j % 4) (by omega)
      rw [show j / 4 * 4 + j % 4 = j by omega, hj] at hat
      obtain ⟨b', off', hA', _, c0, c1, c2, c3⟩ := hr.cell (j / 4) hi'
      simp only [Option.some.injEq, Addr.mk.injEq, and_true] at hA'
      obtain ⟨rfl, rfl⟩ := hA'
      have hadd : (⟨b, off, none⟩ : Addr).add j = ⟨b, off + j, none⟩ := by unfold Addr.add; split <;> simp_all
      rw [hadd]
      have h4 : j % 4 = 0 ∨ j % 4 = 1 ∨ j % 4 = 2 ∨ j % 4 = 3 := by omega
      rcases h4 with h4 | h4 | h4 | h4
      · rw [h4, show (enC l2[j / 4])[0]? = some (.string l2[j / 4].key) from rfl, Option.some.injEq] at hat; rw [hat, show off + j = off + j / 4 * 4 by omega]; exact c0
      · rw [h4, show (enC l2[j / 4])[1]? = some (.int .i64 l2[j / 4].val) from rfl, Option.some.injEq] at hat; rw [hat, show off + j = off + j / 4 * 4 + 1 by omega]; exact c1
      · rw [h4, show (enC l2[j / 4])[2]? = some (.bool l2[j / 4].gone) from rfl, Option.some.injEq] at hat; rw [hat, show off + j = off + j / 4 * 4 + 2 by omega]; exact c2
      · rw [h4, show (enC l2[j / 4])[3]? = some (.int .i64 l2[j / 4].time) from rfl, Option.some.injEq] at hat; rw [hat, show off + j = off + j / 4 * 4 + 3 by omega]; exact c3
    · intro u hu
      exact cellsE_one hu
    · unfold maxLen; omega
    · omega
    · intro g cap w' h2 h3 _ _
      refine hK _ _ (h _ w' ?_ h3)
      unfold OwnE
      rw [cellsE_app, List.length_append, hlen]
      exact h2

end Go.Proofs.YtfhpkcamigkmdaaGreatDoor.W
namespace Go.Proofs.YtfhpkcamigkmdaaGreatDoor.W
open Go.RowKit K R

theorem emptyE (w : World) : OwnE (w.alloc (.cells #[] 83)) w.heap.size (.slice (some ⟨w.heap.size, 0, none⟩) 0 0) [] := World.ownsRow_made w #[] 0 (Nat.le_refl _) (by unfold maxLen; omega) rfl
end Go.Proofs.YtfhpkcamigkmdaaGreatDoor.W
namespace Go.Proofs.YtfhpkcamigkmdaaGreatDoor.W
open Go.RowKit K R

theorem ownE_parts {w : World} {base : Nat} {v : Value} {l : List En} (h : OwnE w base v l) : ∃ (A : Option Addr) (c : Nat), v = .slice A l.length c ∧ l.length ≤ c ∧ c ≤ maxLen ∧ Ents w w.heap.size A l.length l := by
  rcases h.2 with ⟨rfl, h0⟩ | ⟨g, cap, cur, rfl, hb, hg, hc, hm, hs, ht⟩
  · have : l = [] := List.eq_nil_of_length_eq_zero h0
    subst this
    exact ⟨none, 0, rfl, Nat.le_refl _, by unfold maxLen; omega, ⟨rfl, fun i hi => absurd hi (Nat.not_lt_zero _)⟩⟩
  · exact ⟨_, cap, rfl, hc, hm, OwnE.ents h rfl⟩
theorem ownE_base {w : World} {base base' : Nat} {v : Value} {l : List En} (h : OwnE w base v l) (hb : base' ≤ base) : OwnE w base' v l := by
  refine ⟨h.1, ?_⟩
  rcases h.2 with hn | ⟨g, cap, cur, hv, hbg, rest⟩
  · exact .inl hn
  · exact .inr ⟨g, cap, cur, hv, by omega, rest⟩

end Go.Proofs.YtfhpkcamigkmdaaGreatDoor.W
namespace Go.Proofs.YtfhpkcamigkmdaaGreatDoor.W
open Go.RowKit K R

def intsC (l : List Int) : List Value := l.map (Value.int .i64)
/-- the slice v holds the numbers l, in a row of the call's own, from block 'base' on -/
abbrev OwnN (w : World) (base : Nat) (v : Value) (l : List Int) : Prop := w.ownsRow base 3 1 v l.length (intsC l)
theorem int_info : (Tryz.prog.info? 3).map (fun i => (i.zero, i.size, i.bytes)) = some (some (.int .i64 0), 1, 8) := by kernel_rfl
theorem intsC_get {l : List Int} {i : Nat} (h : i < l.length) : (intsC l)[i]? = some (.int .i64 l[i]) := by simp [intsC, h]
theorem intsC_set (l : List Int) (i : Nat) (x : Int) : (intsC l).set i (.int .i64 x) = intsC (l.set i x) := by simp [intsC, List.map_set]
theorem made_N {w : World} {base n : Nat} {v : Value} (h : w.ownsRow base 3 1 v n (madeCells (Value.cells (.int .i64 0)) (n * 1)).toList) : OwnN w base v (List.replicate n 0) := by
  unfold OwnN intsC
  rw [List.length_replicate, List.map_replicate, ← toList_madeCells_one]
  rw [Nat.mul_one] at h
  exact h
theorem OwnN.nums {w : World} {base g n c : Nat} {l : List Int} (h : w.ownsRow base 3 1 (.slice (some ⟨g, 0, none⟩) n c) n (intsC l)) (hn : l.length = n) : Nums w w.heap.size (some ⟨g, 0, none⟩) n l :=
  ⟨hn, fun i hi => ⟨g, 0, rfl, (World.ownsRow.lt h g rfl).2, by rw [Nat.zero_add]; exact rowGet h (intsC_get hi)⟩⟩
theorem Nums.more {w : World} {B B' n : Nat} {A : Option Addr} {l : List Int} (h : Nums w B A n l) (hB : B ≤ B') : Nums w B' A n l :=
  ⟨h.len, fun i hi => by
    obtain ⟨b, off, hA, hlt, c0⟩ := h.cell i hi
    exact ⟨b, off, hA, Nat.lt_of_lt_of_le hlt hB, c0⟩⟩
theorem copyN_step {l : List Int} {k : Nat} (h : k < l.length) : (l.take k ++ List.replicate (l.length - k) 0).set k l[k] = l.take (k + 1) ++ List.replicate (l.length - (k + 1)) 0 := by
  have hl : (l.take k).length = k := by rw [List.length_take]; omega
  rw [show l.length - k = (l.length - (k + 1)) + 1 by omega, List.replicate_succ, List.set_append_right _ _ (by omega), hl, Nat.sub_self, List.set_cons_zero, List.take_succ_eq_append_getElem h, List.append_assoc]
  rfl
/-- a new slice of numbers -/
def NewN (w : World) (l : List Int) (e : Ending) (w' : World) : Prop := ∃ g c, e = .returned (.slice (some ⟨g, 0, none⟩) l.length c) ∧ w'.ownsRow w.heap.size 3 1 (.slice (some ⟨g, 0, none⟩) l.length c) l.length (intsC l) ∧ Below w.heap.size w w'

set_option maxHeartbeats 1000000 in
theorem copyN (w : World) (B n c : Nat) (A : Option Addr) (l : List Int) (hr : Nums w B A n l) (hB : B ≤ w.heap.size) (hn : n ≤ 1048576) :
    Calls Tryz.prog 45 #[.slice A n c] w (NewN w l) := by
  have hlen := hr.len
  subst hlen
  have HR := Lib.hid hr
  clear hr
  obtain ⟨i0, hi, hz0, hz1, hz2⟩ := info_parts int_info
  go_enter Tryz.func45, Tryz.ntmps45
  go_wp2_with (at_make; refine wpList_make_full w rfl (.tmp 6) (.tmp 6) 25 rfl w.heap.size 3 i0 (.int .i64 0) 1 Tryz.underlying25 hi hz0 hz1 .i64 .i64 _ _ l.length rfl rfl rfl rfl (by rw [hz2]; omega) (by unfold maxLen; omega) (Nat.le_refl _) ?_; intro w1 ho1 hg1)
  have HO1 := Lib.hid (made_N ho1)
  have HB1 := Lib.hid ((Below.refl w.heap.size w).grown hg1 (Nat.le_refl _) (fun k e => by cases e))
  clear ho1 hg1 hi hz0 hz1 hz2
  go_wp2_with fail
  go_loopw [4] (fun i wr => ∃ k : Nat, k ≤ l.length ∧ i = .int .i64 (k : Nat) ∧ wr.ownsRow w.heap.size 3 1 (.slice (some ⟨w.heap.size, 0, none⟩) l.length l.length) l.length (intsC (l.take k ++ List.replicate (l.length - k) 0)) ∧ Below w.heap.size w wr) (fun i _ => l.length - (intOf i).toNat)
  case atStart => exact ⟨0, Nat.zero_le _, rfl, by simpa [OwnN] using HO1.out, HB1.out⟩
  case round =>
    obtain ⟨k, hk, rfl, ho, hb⟩ := hrel
    have HO := Lib.hid ho
    have HB := Lib.hid hb
    clear ho hb HO1 HB1
    by_cases hlt : k < l.length
    · obtain ⟨kb, ko, hA, hbB, d0⟩ := (HR.out.below HB.out hB).cell k hlt
      subst hA
      obtain ⟨x0, h0⟩ : ∃ y, y = l[k] := ⟨_, rfl⟩
      have hst := copyN_step hlt
      rw [← h0] at d0 hst
      have HST := Lib.hid hst
      have hll : k < (l.take k ++ List.replicate (l.length - k) 0).length := by rw [List.length_append, List.length_take, List.length_replicate]; omega
      have q0 := rowGet HO.out (i := k) (intsC_get hll)
      have f0 := rowFree HO.out k
      have z0 : (0 : Int) ≤ (k : Int) := by omega
      have z1 : (k : Int) < (l.length : Int) := by omega
      clear h0 hst
      go_wp2
      go_roundw
      case rel => exact ⟨k + 1, by omega, by go_num, by rw [← HST.out, ← intsC_set]; exact rowSet HO.out k _, HB.out.setCell (Nat.le_refl _) _⟩
      case measure => simp [intOf]; omega
    · have hke : k = l.length := by omega
      subst hke
      go_wp2
      go_ret
      exact ⟨_, _, rfl, by simpa using HO.out, HB.out⟩

set_option maxHeartbeats 1000000 in
theorem eqNS (w : World) (B n c c2 : Nat) (A A2 : Option Addr) (l : List Int) (hr : Nums w B A n l) (hr2 : Nums w B A2 n l) (hB : B ≤ w.heap.size) (hn : n ≤ maxLen) :
    Calls Tryz.prog 50 #[.slice A n c, .slice A2 n c2] w fun e w' => e = .returned (.bool true) ∧ Below w.heap.size w w' := by
  have hlen := hr.len
  subst hlen
  unfold maxLen at hn
  have HR := Lib.hid hr
  have HR2 := Lib.hid hr2
  clear hr hr2
  go_enter Tryz.func50, Tryz.ntmps50
  go_wp2_with fail
  go_loopw [5] (fun i wr => ∃ k : Nat, k ≤ l.length ∧ i = .int .i64 (k : Nat) ∧ Below w.heap.size w wr) (fun i _ => l.length - (intOf i).toNat)
  case atStart => exact ⟨0, Nat.zero_le _, rfl, Below.refl _ _⟩
  case round =>
    obtain ⟨k, hk, rfl, hb⟩ := hrel
    have HBL := Lib.hid hb
    clear hb
    by_cases hlt : k < l.length
    · obtain ⟨kb, ko, hA, hkb, d0⟩ := (HR.out.below HBL.out hB).cell k hlt
      obtain ⟨jb, jo, hA2, hjb, g0⟩ := (HR2.out.below HBL.out hB).cell k hlt
      subst hA hA2
      obtain ⟨x0, h0⟩ : ∃ y, y = l[k] := ⟨_, rfl⟩
      rw [← h0] at d0 g0
      have z0 : (0 : Int) ≤ (k : Int) := by omega
      have z1 : (k : Int) < (l.length : Int) := by omega
      clear h0
      go_wp2_with fail
      go_quiet (fail)
      go_wp2
      go_roundw
      case rel => exact ⟨k + 1, by omega, by go_num, bel2 HBL.out (by rfl) (by rfl) (by rfl) (by rfl)⟩
      case measure => simp [intOf]; omega
    · have hke : k = l.length := by omega
      subst hke
      go_wp2
      go_ret
      exact ⟨rfl, HBL.out⟩

end Go.Proofs.YtfhpkcamigkmdaaGreatDoor.W
namespace Go.Proofs.YtfhpkcamigkmdaaGreatDoor.W
open Go.RowKit K

/-- a copy of a filter: the same fields, the rests in memory of its own -/
def CopySv (L M_ F : ByteArray) (l : List ByteArray) (keep : Int) (w : World) (e : Ending) (w' : World) : Prop :=
  ∃ A c, e = .returned (.agg #[.string L, .string M_, .string F, .slice A l.length c, .int .i64 keep]) ∧ Own w' w.heap.size (.slice A l.length c) l ∧ Below w.heap.size w w'

theorem own_setFar {w : World} {base : Nat} {v : Value} {l : List ByteArray} (h : Own w base v l) (g o : Nat) (x : Value) (hg : g < base) : Own (w.setCell ⟨g, o, none⟩ x) base v l :=
  World.ownsRow.kept h (row := some g) (w' := w.setCell ⟨g, o, none⟩ x) ⟨rfl, rfl, rfl, by simp [World.setCell], fun k _ hk => heap_setCell_other _ _ _ _ (fun e => hk (by rw [e]))⟩ (by
    cases e : v.ownBlock with
    | none => exact .inl rfl
    | some k => exact .inr (fun y => by have := (World.ownsRow.lt h k e).1; injection y; omega))

set_option maxHeartbeats 1000000 in
theorem copySv (w : World) (n c : Nat) (A : Option Addr) (L M_ F : ByteArray) (keep : Int) (l : List ByteArray) (B : Nat) (hr : Strs w B A n l) (hB : B ≤ w.heap.size) (hn : n ≤ 1073741824) :
    Calls Tryz.prog 97 #[.agg #[.string L, .string M_, .string F, .slice A n c, .int .i64 keep]] w (CopySv L M_ F l keep w) := by
  have hln := hr.len
  subst hln
  obtain ⟨W0, hW0⟩ : ∃ W0, W0 = ((w.alloc (.cells #[.string L, .string M_, .string F, .slice A l.length c, .int .i64 keep] 108)).alloc (.cells #[.string ⟨#[]⟩, .string ⟨#[]⟩, .string ⟨#[]⟩, .slice none 0 0, .int .i64 0] 92)).alloc (.cells #[.string L, .string M_, .string F, .slice none 0 0, .int .i64 0] 92) := ⟨_, rfl⟩
  have hb0 : Below w.heap.size w W0 := by rw [hW0]; exact (((Below.refl _ _).alloc (Nat.le_refl _) _).alloc (by simp) _).alloc (by simp; omega) _
  have hs0 : W0.heap.size = w.heap.size + 1 + 1 + 1 := by rw [hW0]; simp
  have HC := Lib.hid (copyS W0 B l.length c A l (hr.below hb0 hB) (by omega) hn)
  have x0 : W0.heap[w.heap.size]? = some (.cells #[.string L, .string M_, .string F, .slice A l.length c, .int .i64 keep] 108 (0, 0)) := by rw [hW0, Below.heap_alloc _ _ _ (by simp; omega), Below.heap_alloc _ _ _ (by simp)]; exact heap_alloc_new _ _
  have x1 : W0.heap[w.heap.size + 1]? = some (.cells #[.string ⟨#[]⟩, .string ⟨#[]⟩, .string ⟨#[]⟩, .slice none 0 0, .int .i64 0] 92 (0, 0)) := by rw [hW0, Below.heap_alloc _ _ _ (by simp)]; have := heap_alloc_new (w.alloc (.cells #[.string L, .string M_, .string F, .slice A l.length c, .int .i64 keep] 108)) (.cells #[.string ⟨#[]⟩, .string ⟨#[]⟩, .string ⟨#[]⟩, .slice none 0 0, .int .i64 0] 92); simpa using this
  have x2 : W0.heap[w.heap.size + 1 + 1]? = some (.cells #[.string L, .string M_, .string F, .slice none 0 0, .int .i64 0] 92 (0, 0)) := by rw [hW0]; have := heap_alloc_new ((w.alloc (.cells #[.string L, .string M_, .string F, .slice A l.length c, .int .i64 keep] 108)).alloc (.cells #[.string ⟨#[]⟩, .string ⟨#[]⟩, .string ⟨#[]⟩, .slice none 0 0, .int .i64 0] 92)) (.cells #[.string L, .string M_, .string F, .slice none 0 0, .int .i64 0] 92); simpa using this
  rw [hW0] at HC
  have HB0 := Lib.hid hb0
  have HX0 := Lib.hid x0
  have HX1 := Lib.hid x1
  have HX2 := Lib.hid x2
  have HW0 := Lib.hid hW0
  clear hr hb0 x0 x1 x2 hW0
  go_enter Tryz.func97, Tryz.ntmps97
  go_wp2_with fail
  go_at_call 136
  refine HC.out.mono ?_
  rw [← HW0.out]
  rintro e w1 ⟨v1, rfl, o1, b1⟩
  obtain ⟨A1, c1, hv1, hc1, hm1, -⟩ := o1.parts
  subst hv1
  have y0 : w1.heap[w.heap.size]? = some (.cells #[.string L, .string M_, .string F, .slice A l.length c, .int .i64 keep] 108 (0, 0)) := by rw [b1.block _ (by omega)]; exact HX0.out
  have y1 : w1.heap[w.heap.size + 1]? = some (.cells #[.string ⟨#[]⟩, .string ⟨#[]⟩, .string ⟨#[]⟩, .slice none 0 0, .int .i64 0] 92 (0, 0)) := by rw [b1.block _ (by omega)]; exact HX1.out
  have y2 : w1.heap[w.heap.size + 1 + 1]? = some (.cells #[.string L, .string M_, .string F, .slice none 0 0, .int .i64 0] 92 (0, 0)) := by rw [b1.block _ (by omega)]; exact HX2.out
  have c4 : w1.cell? ⟨w.heap.size, 4, none⟩ = some (.int .i64 keep) := by rw [cell_of_row _ _ _ _ _ _ y0]; rfl
  have p0 : w1.cell? ⟨w.heap.size + 1, 0, none⟩ = some (.string ⟨#[]⟩) := by rw [cell_of_row _ _ _ _ _ _ y1]; rfl
  have pz0 : w1.frozen? ⟨w.heap.size + 1, 0, none⟩ = false := by rw [frozen_of_row _ _ _ _ _ y1]
  have p1 : w1.cell? ⟨w.heap.size + 1, 1, none⟩ = some (.string ⟨#[]⟩) := by rw [cell_of_row _ _ _ _ _ _ y1]; rfl
  have pz1 : w1.frozen? ⟨w.heap.size + 1, 1, none⟩ = false := by rw [frozen_of_row _ _ _ _ _ y1]
  have p2 : w1.cell? ⟨w.heap.size + 1, 2, none⟩ = some (.string ⟨#[]⟩) := by rw [cell_of_row _ _ _ _ _ _ y1]; rfl
  have pz2 : w1.frozen? ⟨w.heap.size + 1, 2, none⟩ = false := by rw [frozen_of_row _ _ _ _ _ y1]
  have p3 : w1.cell? ⟨w.heap.size + 1, 3, none⟩ = some (.slice none 0 0) := by rw [cell_of_row _ _ _ _ _ _ y1]; rfl
  have pz3 : w1.frozen? ⟨w.heap.size + 1, 3, none⟩ = false := by rw [frozen_of_row _ _ _ _ _ y1]
  have p4 : w1.cell? ⟨w.heap.size + 1, 4, none⟩ = some (.int .i64 0) := by rw [cell_of_row _ _ _ _ _ _ y1]; rfl
  have pz4 : w1.frozen? ⟨w.heap.size + 1, 4, none⟩ = false := by rw [frozen_of_row _ _ _ _ _ y1]
  have q0 : w1.cell? ⟨w.heap.size + 1 + 1, 0, none⟩ = some (.string L) := by rw [cell_of_row _ _ _ _ _ _ y2]; rfl
  have qz0 : w1.frozen? ⟨w.heap.size + 1 + 1, 0, none⟩ = false := by rw [frozen_of_row _ _ _ _ _ y2]
  have q1 : w1.cell? ⟨w.heap.size + 1 + 1, 1, none⟩ = some (.string M_) := by rw [cell_of_row _ _ _ _ _ _ y2]; rfl
  have qz1 : w1.frozen? ⟨w.heap.size + 1 + 1, 1, none⟩ = false := by rw [frozen_of_row _ _ _ _ _ y2]
  have q2 : w1.cell? ⟨w.heap.size + 1 + 1, 2, none⟩ = some (.string F) := by rw [cell_of_row _ _ _ _ _ _ y2]; rfl
  have qz2 : w1.frozen? ⟨w.heap.size + 1 + 1, 2, none⟩ = false := by rw [frozen_of_row _ _ _ _ _ y2]
  have q3 : w1.cell? ⟨w.heap.size + 1 + 1, 3, none⟩ = some (.slice none 0 0) := by rw [cell_of_row _ _ _ _ _ _ y2]; rfl
  have qz3 : w1.frozen? ⟨w.heap.size + 1 + 1, 3, none⟩ = false := by rw [frozen_of_row _ _ _ _ _ y2]
  have q4 : w1.cell? ⟨w.heap.size + 1 + 1, 4, none⟩ = some (.int .i64 0) := by rw [cell_of_row _ _ _ _ _ _ y2]; rfl
  have qz4 : w1.frozen? ⟨w.heap.size + 1 + 1, 4, none⟩ = false := by rw [frozen_of_row _ _ _ _ _ y2]
  have HY1 := Lib.hid y1
  have HO1 := Lib.hid o1
  have HB1 := Lib.hid b1
  clear y0 y1 y2 o1 b1
  go_wp2
  refine bodyPost_ret (v := .agg #[.string L, .string M_, .string F, .slice A1 l.length c1, .int .i64 keep]) ?_ rfl ⟨A1, c1, rfl, ?_, ?_⟩
  · exact results_cell_row rfl _ _ (w.heap.size + 1) 92 _ (0, 0) _ rfl (box_five (by rw [heap_setCell_other _ _ _ _ (by simp), heap_setCell_other _ _ _ _ (by simp)]; exact HY1.out) _ _ _ _ _) Tryz.underlying92 rfl sieve_size
  · exact (own_setFar (own_setFar (own_setFar (own_setFar (own_setFar (own_setFar (own_setFar HO1.out _ _ _ (by omega)) _ _ _ (by omega)) _ _ _ (by omega)) _ _ _ (by omega)) _ _ _ (by omega)) _ _ _ (by omega)) _ _ _ (by omega)).base (by omega)
  · have hb := HB0.out.trans (HB1.out.mono HB0.out.size)
    exact ((((((hb.setCell (by show w.heap.size ≤ w.heap.size + 1 + 1; omega) _).setCell (by show w.heap.size ≤ w.heap.size + 1 + 1; omega) _).setCell (by show w.heap.size ≤ w.heap.size + 1; omega) _).setCell (by show w.heap.size ≤ w.heap.size + 1; omega) _).setCell (by show w.heap.size ≤ w.heap.size + 1; omega) _).setCell (by show w.heap.size ≤ w.heap.size + 1; omega) _).setCell (by show w.heap.size ≤ w.heap.size + 1; omega) _

end Go.Proofs.YtfhpkcamigkmdaaGreatDoor.W
namespace Go.Proofs.YtfhpkcamigkmdaaGreatDoor.W
open Go.RowKit K R

/-- two slices lie in different rows -/
def apartV (a b : Value) : Prop := ∀ k, a.ownBlock = some k → b.ownBlock ≠ some k
theorem apart_new {w w' : World} {E E2 : TypeId} {sz sz2 n n2 base b2 : Nat} {a b : Value} {cs cs2 : List Value} (ha : w.ownsRow base E sz a n cs) (hb : w'.ownsRow b2 E2 sz2 b n2 cs2) (h : w.heap.size ≤ b2) : apartV a b := fun k h1 h2 => by
  have := (World.ownsRow.lt ha k h1).2
  have := (World.ownsRow.lt hb k h2).1
  omega
theorem rowSetFar {E : TypeId} {sz m : Nat} {w : World} {base : Nat} {v : Value} {cs : List Value} (h : w.ownsRow base E sz v m cs) (g o : Nat) (x : Value) (hg : g < base) : (w.setCell ⟨g, o, none⟩ x).ownsRow base E sz v m cs :=
  World.ownsRow.kept h (row := some g) (w' := w.setCell ⟨g, o, none⟩ x) ⟨rfl, rfl, rfl, by simp [World.setCell], fun k _ hk => heap_setCell_other _ _ _ _ (fun e => hk (by rw [e]))⟩ (by
    cases e : v.ownBlock with
    | none => exact .inl rfl
    | some k => exact .inr (fun y => by have := (World.ownsRow.lt h k e).1; injection y; omega))
theorem rowBase {E : TypeId} {sz m : Nat} {w : World} {base base' : Nat} {v : Value} {cs : List Value} (h : w.ownsRow base E sz v m cs) (hb : base' ≤ base) : w.ownsRow base' E sz v m cs := by
  refine ⟨h.1, ?_⟩
  rcases h.2 with hn | ⟨g, cap, cur, hv, hbg, rest⟩
  · exact .inl hn
  · exact .inr ⟨g, cap, cur, hv, Nat.le_trans hb hbg, rest⟩
/-- the slice v holds the runs ls: a row of its own with the slices vs, each of which holds its run in a row of its own -/
structure OwnLs (w : World) (base : Nat) (v : Value) (vs : List Value) (ls : List (List En)) : Prop where
  len : vs.length = ls.length
  row : w.ownsRow base 29 1 v ls.length vs
  each : ∀ i (h : i < ls.length) (h2 : i < vs.length), OwnE w base vs[i] ls[i]
  apart : vs.Pairwise apartV
theorem OwnLs.below {w w' : World} {base : Nat} {v : Value} {vs : List Value} {ls : List (List En)} (h : OwnLs w base v vs ls) (hb : Below w.heap.size w w') : OwnLs w' base v vs ls :=
  ⟨h.len, rowBelow h.row hb, fun i h1 h2 => rowBelow (h.each i h1 h2) hb, h.apart⟩
theorem OwnLs.lvls {w : World} {base g n c : Nat} {vs : List Value} {ls : List (List En)} (h : OwnLs w base (.slice (some ⟨g, 0, none⟩) n c) vs ls) : Lvls w w.heap.size (some ⟨g, 0, none⟩) ls.length ls :=
  ⟨rfl, fun i hi => by
    have hlt := (World.ownsRow.lt h.row g rfl).2
    have hi2 : i < vs.length := by rw [h.len]; exact hi
    obtain ⟨A', c', hv, h1, h2, he⟩ := ownE_parts (h.each i hi hi2)
    have hn : n = ls.length := by
      rcases h.row.2 with ⟨hv, -⟩ | ⟨_, _, _, hv, _⟩
      · cases hv
      · injection hv
    subst hn
    refine ⟨g, 0, A', c', rfl, hlt, ?_, he, h1, h2⟩
    rw [Nat.zero_add]
    refine rowGet h.row (i := i) ?_
    rw [List.getElem?_eq_getElem hi2, hv]⟩
/-- new levels -/
def NewLs (w : World) (ls : List (List En)) (e : Ending) (w' : World) : Prop := ∃ g c vs, e = .returned (.slice (some ⟨g, 0, none⟩) ls.length c) ∧ OwnLs w' w.heap.size (.slice (some ⟨g, 0, none⟩) ls.length c) vs ls ∧ Below w.heap.size w w'
theorem lvl_info : (Tryz.prog.info? 29).map (fun i => (i.zero, i.size, i.bytes)) = some (some (.slice none 0 0), 1, 24) := by kernel_rfl
theorem made_L (n : Nat) : (madeCells (Value.cells (.slice none 0 0)) (n * 1)).toList = List.replicate n (.slice none 0 0) := by
  rw [Nat.mul_one, ← toList_madeCells_one]; rfl
theorem repl_set {α : Type} {vs : List α} {n k : Nat} {z u : α} (hk : k < n) (hv : vs.length = k) : (vs ++ List.replicate (n - k) z).set k u = (vs ++ [u]) ++ List.replicate (n - (k + 1)) z := by
  subst hv
  rw [show n - vs.length = (n - (vs.length + 1)) + 1 by omega, List.replicate_succ, List.set_append_right _ _ (Nat.le_refl _), Nat.sub_self, List.set_cons_zero, List.append_assoc]
  rfl

set_option maxHeartbeats 4000000 in
theorem copyLs (w : World) (B n c : Nat) (A : Option Addr) (ls : List (List En)) (hr : Lvls w B A n ls) (hB : B ≤ w.heap.size) (hn : n ≤ 1048576) (hs : ∀ r ∈ ls, smallE r) :
    Calls Tryz.prog 43 #[.slice A n c] w (NewLs w ls) := by
  have hlen := hr.len
  subst hlen
  have HR := Lib.hid hr
  have HSM := Lib.hid hs
  clear hr hs
  obtain ⟨i0, hi, hz0, hz1, hz2⟩ := info_parts lvl_info
  go_enter Tryz.func43, Tryz.ntmps43
  go_wp2_with (at_make; refine wpList_make_full w rfl (.tmp 6) (.tmp 6) 30 rfl w.heap.size 29 i0 (.slice none 0 0) 1 Tryz.underlying30 hi hz0 hz1 .i64 .i64 _ _ ls.length rfl rfl rfl rfl (by rw [hz2]; omega) (by unfold maxLen; omega) (Nat.le_refl _) ?_; intro w1 ho1 hg1)
  have HO1 := Lib.hid (show w1.ownsRow w.heap.size 29 1 (.slice (some ⟨w.heap.size, 0, none⟩) ls.length ls.length) ls.length (List.replicate ls.length (.slice none 0 0)) by rw [← made_L]; exact ho1)
  have HB1 := Lib.hid ((Below.refl w.heap.size w).grown hg1 (Nat.le_refl _) (fun k e => by cases e))
  clear ho1 hg1 hi hz0 hz1 hz2
  go_wp2_with fail
  go_loopw [4] (fun i wr => ∃ (k : Nat) (vs : List Value), k ≤ ls.length ∧ i = .int .i64 (k : Nat) ∧ vs.length = k ∧ wr.ownsRow w.heap.size 29 1 (.slice (some ⟨w.heap.size, 0, none⟩) ls.length ls.length) ls.length (vs ++ List.replicate (ls.length - k) (.slice none 0 0)) ∧ (∀ i (h : i < ls.length) (h2 : i < vs.length), OwnE wr (w.heap.size + 1) vs[i] ls[i]) ∧ vs.Pairwise apartV ∧ Below w.heap.size w wr) (fun i _ => ls.length - (intOf i).toNat)
  case atStart => exact ⟨0, [], Nat.zero_le _, rfl, rfl, by simpa using HO1.out, fun i _ h => absurd h (Nat.not_lt_zero _), List.Pairwise.nil, HB1.out⟩
  case round =>
    obtain ⟨k, vs, hk, rfl, hvl, ho, he, hap, hb⟩ := hrel
    have HO := Lib.hid ho
    have HB := Lib.hid hb
    have HE := Lib.hid he
    have HP := Lib.hid hap
    have HV := Lib.hid hvl
    clear ho hb he hap hvl HO1 HB1
    by_cases hlt : k < ls.length
    · obtain ⟨kb, ko, A', c', hA, hbB, d0, hre, hc1, hc2⟩ := (HR.out.below HB.out hB).cell k hlt
      subst hA
      obtain ⟨r, h0⟩ : ∃ y, y = ls[k] := ⟨_, rfl⟩
      have hsm := HSM.out _ (List.getElem_mem hlt)
      rw [← h0] at d0 hre hc1 hsm
      have H0 := Lib.hid h0
      have z0 : (0 : Int) ≤ (k : Int) := by omega
      have z1 : (k : Int) < (ls.length : Int) := by omega
      have hwlt := (World.ownsRow.lt HO.out w.heap.size rfl).2
      have HC := Lib.hid (copyE wr B r.length c' A' r hre (by omega) hsm.1)
      clear h0 hre hsm
      go_wp2_with fail
      go_at_call 42
      refine Calls.mono HC.out ?_
      rintro e w5 ⟨g5, c5, rfl, o5, b5⟩
      have HO5 := Lib.hid (rowBelow HO.out b5)
      have HB5 := Lib.hid (HB.out.trans (b5.mono HB.out.size))
      have HE5 := Lib.hid (show ∀ i (h : i < ls.length) (h2 : i < vs.length), OwnE w5 (w.heap.size + 1) vs[i] ls[i] from fun i h h2 => rowBelow (HE.out i h h2) b5)
      have HN5 := Lib.hid (rowBase (base' := w.heap.size + 1) o5 (by omega))
      have HP5 := Lib.hid (show ∀ v ∈ vs, apartV v (.slice (some ⟨g5, 0, none⟩) r.length c5) from fun v hv => by
        obtain ⟨i, hi, rfl⟩ := List.getElem_of_mem hv
        have hvl := HV.out
        exact apart_new (HE.out i (by omega) hi) o5 (Nat.le_refl _))
      have hvl := HV.out
      have q0 := rowGet HO5.out (i := k) (u := .slice none 0 0) (by rw [List.getElem?_append_right (by omega), hvl, Nat.sub_self, List.getElem?_replicate, if_pos (by omega)])
      have f0 := rowFree HO5.out k
      have hst := repl_set (u := Value.slice (some ⟨g5, 0, none⟩) r.length c5) (z := Value.slice none 0 0) hlt hvl
      have HST := Lib.hid hst
      clear hst b5 o5 hvl d0
      go_wp2
      go_roundw
      case rel =>
        refine ⟨k + 1, vs ++ [.slice (some ⟨g5, 0, none⟩) r.length c5], by omega, by go_num, by rw [List.length_append, HV.out]; rfl, ?_, fun i h h2 => ?_, ?_, HB5.out.setCell (p := ⟨w.heap.size, k, none⟩) (Nat.le_refl _) _⟩
        · rw [← HST.out]; exact rowSet HO5.out k _
        · refine rowSetFar ?_ _ _ _ (Nat.lt_succ_self _)
          have hvl := HV.out
          by_cases e : i < vs.length
          · rw [List.getElem_append_left e]; exact HE5.out i h e
          · have : i = k := by rw [List.length_append] at h2; simp at h2; omega
            subst this
            rw [List.getElem_append_right (by omega)]
            simp only [List.getElem_singleton]
            rw [← H0.out]
            exact HN5.out
        · rw [List.pairwise_append]
          exact ⟨HP.out, List.pairwise_singleton _ _, fun a ha b hb => by rw [List.mem_singleton] at hb; subst hb; exact HP5.out a ha⟩
      case measure => simp [intOf]; omega
    · have hke : k = ls.length := by omega
      subst hke
      go_wp2
      go_ret
      refine ⟨_, _, vs, rfl, ⟨HV.out, by simpa using HO.out, fun i h h2 => rowBase (HE.out i h h2) (Nat.le_succ _), HP.out⟩, HB.out⟩

end Go.Proofs.YtfhpkcamigkmdaaGreatDoor.W
