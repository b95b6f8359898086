/-
  The size of entries that came in, as an exact law reckons it.
-/
import Derived.Test.YtbckgmfopbpocaaDoorE1
namespace Go.Proofs.YtbckgmfopbpocaaDoor.W
open Go.RowKit K R

theorem i64_z (a : Int) (h1 : -9223372036854775808 ≤ a) (h2 : a ≤ 9223372036854775807) : IntKind.i64.wrap a = a := IntWalk.i64_in _ ⟨by omega, by omega⟩
set_option maxHeartbeats 2000000 in
theorem szEn (k : ByteArray) (v : Int) (g : Bool) (t : Int) (x : Int) (w : World) (hx0 : 0 ≤ x) (hx1 : x ≤ 1048576) (hk : k.size ≤ maxLen) :
    Calls Tryd.prog 40 #[.agg #[.string k, .int .i64 v, .bool g, .int .i64 t], .int .i64 x] w fun e w' => e = .returned (.int .i64 (if x - k.size < 0 then -1 else x - k.size)) ∧ Below w.heap.size w w' := by
  unfold maxLen at hk
  obtain ⟨y, hy⟩ : ∃ y : Int, y = x - k.size := ⟨_, rfl⟩
  have hw : IntKind.i64.wrap (x - (k.size : Int)) = y := by rw [hy]; exact i64_z _ (by omega) (by omega)
  rw [← hy]
  clear hy
  by_cases h : y < 0
  · rw [if_pos h]
    go_enter Tryd.func40, Tryd.ntmps40
    go_wp2
    go_ret
    exact ⟨rfl, (Below.refl _ _).alloc (Nat.le_refl _) _⟩
  · rw [if_neg h]
    go_enter Tryd.func40, Tryd.ntmps40
    go_wp2
    go_ret
    exact ⟨rfl, (Below.refl _ _).alloc (Nat.le_refl _) _⟩

/-- how much is left, or that it is too much -/
def SizedE (l : List En) (w : World) (e : Ending) (w' : World) : Prop :=
  ∃ x : Int, e = .returned (.int .i64 x) ∧ -1 ≤ x ∧ x ≤ 1048576 ∧ (0 ≤ x → l.length ≤ 1048576 ∧ ∀ e ∈ l, e.key.size ≤ 1048576) ∧ Below w.heap.size w w'

set_option maxHeartbeats 4000000 in
theorem szEnS (w : World) (B n c : Nat) (A : Option Addr) (l : List En) (hr : Ents w B A n l) (hB : B ≤ w.heap.size) (hn : n ≤ maxLen) (hf : ∀ e ∈ l, e.key.size ≤ maxLen) :
    Calls Tryd.prog 18 #[.slice A n c, .int .i64 1048576] w (SizedE l w) := by
  have hlen := hr.len
  subst hlen
  unfold maxLen at hn
  have HR := Lib.hid hr
  have HF := Lib.hid hf
  clear hr hf
  obtain ⟨y, hy⟩ : ∃ y : Int, y = 1048576 - (l.length : Int) := ⟨_, rfl⟩
  have hw : IntKind.i64.wrap (1048576 - (l.length : Int)) = y := by rw [hy]; exact i64_z _ (by omega) (by omega)
  by_cases h : y < 0
  · clear hy
    go_enter Tryd.func18, Tryd.ntmps18
    go_wp2
    go_ret
    exact ⟨-1, rfl, by omega, by omega, by omega, Below.refl _ _⟩
  · have HY := Lib.hid hy
    clear hy
    go_enter Tryd.func18, Tryd.ntmps18
    go_wp2_with fail
    go_loopw [1, 5] (fun s i wr => ∃ (k : Nat) (x : Int), k ≤ l.length ∧ i = .int .i64 (k : Nat) ∧ s = .int .i64 x ∧ 0 ≤ x ∧ x ≤ 1048576 ∧ (∀ i (h : i < l.length), i < k → l[i].key.size ≤ 1048576) ∧ Below w.heap.size w wr) (fun _ i _ => l.length - (intOf i).toNat)
    case atStart => exact ⟨0, y, Nat.zero_le _, rfl, rfl, by omega, by have := HY.out; omega, fun i h1 h2 => by omega, Below.refl _ _⟩
    case round =>
      obtain ⟨k, x, hk, rfl, rfl, hx0, hx1, hsm, hbl⟩ := hrel
      have HBL := Lib.hid hbl
      have HSM := Lib.hid hsm
      clear hbl hsm
      by_cases hlt : k < l.length
      · obtain ⟨kb, ko, hA, hkb, c0, c1, c2, c3⟩ := HR.out.cell k hlt
        subst hA
        have hkb' : kb < w.heap.size := Nat.lt_of_lt_of_le hkb hB
        have r0 := (HBL.out.cell (p := ⟨kb, ko + k * 4, none⟩) hkb').trans c0
        have r1 := (HBL.out.cell (p := ⟨kb, ko + k * 4 + 1, none⟩) hkb').trans c1
        have r2 := (HBL.out.cell (p := ⟨kb, ko + k * 4 + 2, none⟩) hkb').trans c2
        have r3 := (HBL.out.cell (p := ⟨kb, ko + k * 4 + 3, none⟩) hkb').trans c3
        have hks := HF.out _ (List.getElem_mem hlt)
        obtain ⟨x0, h0⟩ : ∃ y, y = l[k].key := ⟨_, rfl⟩
        obtain ⟨x1, h1⟩ : ∃ y, y = l[k].val := ⟨_, rfl⟩
        obtain ⟨x2, h2⟩ : ∃ y, y = l[k].gone := ⟨_, rfl⟩
        obtain ⟨x3, h3⟩ : ∃ y, y = l[k].time := ⟨_, rfl⟩
        rw [← h0] at r0 hks
        rw [← h1] at r1
        rw [← h2] at r2
        rw [← h3] at r3
        have H0 := Lib.hid h0
        have z0 : (0 : Int) ≤ (k : Int) := by omega
        have z1 : (k : Int) < (l.length : Int) := by omega
        obtain ⟨u, hu⟩ : ∃ u : Int, u = if x - (x0.size : Int) < 0 then -1 else x - (x0.size : Int) := ⟨_, rfl⟩
        have HZ := Lib.hid (show ∀ W : World, Calls Tryd.prog 40 #[.agg #[.string x0, .int .i64 x1, .bool x2, .int .i64 x3], .int .i64 x] W fun e w' => e = .returned (.int .i64 u) ∧ Below W.heap.size W w' from fun W => by rw [hu]; exact szEn x0 x1 x2 x3 x W hx0 hx1 hks)
        have HU := Lib.hid hu
        clear hu h0 h1 h2 h3 c0 c1 c2 c3
        by_cases hneg : u < 0
        · go_wp2_with (go_at_call 40; refine Calls.mono (HZ.out _) ?_; rintro e w5 ⟨rfl, hb5⟩; have HB5 := Lib.hid (HBL.out.trans (hb5.mono HBL.out.size)); clear hb5)
          go_ret
          exact ⟨-1, rfl, by omega, by omega, by omega, HB5.out⟩
        · have hu2 : x0.size ≤ 1048576 ∧ u ≤ 1048576 := by
            have := HU.out
            split at this <;> omega
          go_wp2_with (go_at_call 40; refine Calls.mono (HZ.out _) ?_; rintro e w5 ⟨rfl, hb5⟩; have HB5 := Lib.hid (HBL.out.trans (hb5.mono HBL.out.size)); clear hb5)
          go_roundw
          case rel =>
            refine ⟨k + 1, u, by omega, by go_num, rfl, by omega, hu2.2, fun i hi h => ?_, HB5.out⟩
            by_cases e : i = k
            · subst e; rw [← H0.out]; exact hu2.1
            · exact HSM.out i hi (by omega)
          case measure => simp [intOf]; omega
      · have hke : k = l.length := by omega
        subst hke
        go_wp2
        go_ret
        refine ⟨x, rfl, by omega, by omega, fun _ => ⟨by have := HY.out; omega, fun e he => ?_⟩, HBL.out⟩
        obtain ⟨i, hi, rfl⟩ := List.getElem_of_mem he
        exact HSM.out i hi hi

end Go.Proofs.YtbckgmfopbpocaaDoor.W
