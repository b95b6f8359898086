/-
  The program's PastGet: a loop over slices.Backward.
-/
import Derived.Test.YtfpgjkanmanajaaGL
import Derived.Test.YtfpgjkanmanajaaGG
import Derived.RangeFuncBound
import Derived.RangeFuncFrom
import Derived.Shelf.Abstract
namespace Go.Proofs.Ytfpgjkanmanajaa.W
open Go.RowKit K R
attribute [local go_sem] Oper.semAt_some

/-- a list from behind, with its places -/
def backL (l : List En) : List (Int × En) := l.zipIdx.reverse.map fun p => ((p.2 : Int), p.1)
theorem backL_snd (l : List En) : (backL l).map (·.2) = l.reverse := by
  unfold backL
  rw [List.map_map]
  have e : (fun p : En × Nat => ((fun x : Int × En => x.2) ∘ fun p : En × Nat => ((p.2 : Int), p.1)) p) = fun p => p.1 := rfl
  rw [show ((fun x : Int × En => x.2) ∘ fun p : En × Nat => ((p.2 : Int), p.1)) = fun p => p.1 from rfl, List.map_reverse]
  congr 1
  exact List.zipIdx_map_fst 0 l
theorem backL_len (l : List En) : (backL l).length = l.length := by unfold backL; simp
theorem backL_get (l : List En) {m : Nat} (h : m < l.length) : (backL l)[l.length - 1 - m]'(by rw [backL_len]; omega) = ((m : Int), l[m]) := by
  unfold backL
  simp only [List.getElem_map, List.getElem_reverse, List.length_zipIdx, List.getElem_zipIdx]
  have e : l.length - 1 - (l.length - 1 - m) = m := by omega
  simp [e]
theorem backL_step (l : List En) {m : Nat} (h : m < l.length) : (backL l).take (l.length - m) = (backL l).take (l.length - (m + 1)) ++ [((m : Int), l[m])] := by
  have h1 : l.length - (m + 1) < (backL l).length := by rw [backL_len]; omega
  rw [show l.length - m = l.length - (m + 1) + 1 by omega, List.take_succ_eq_append_getElem h1]
  congr 2
  have := backL_get l h
  simp only [show l.length - 1 - m = l.length - (m + 1) by omega] at this
  exact this
/-- a hit where none was ahead of it is the last -/
theorem back_hit {l : List En} {k : ByteArray} {t : Int} {pre : List (Int × En)} {x : Int × En} (hp : pre ++ [x] <+: backL l) (hno : ∀ y ∈ pre, isOf k t y.2 = false) (hx : isOf k t x.2 = true) : lastL l k t = some x.2 := by
  obtain ⟨rest, hr⟩ := hp
  have e := congrArg (List.map (·.2)) hr
  rw [backL_snd, List.map_append, List.map_append] at e
  unfold lastL
  rw [← e, List.append_assoc, List.find?_append, List.find?_eq_none.mpr (fun y hy => by
    obtain ⟨z, hz, rfl⟩ := List.mem_map.mp hy
    rw [hno z hz]
    simp), Option.none_or]
  simp [hx]
theorem back_none {l : List En} {k : ByteArray} {t : Int} (hno : ∀ y ∈ backL l, isOf k t y.2 = false) : lastL l k t = none := by
  unfold lastL
  rw [← backL_snd, List.find?_eq_none]
  intro y hy
  obtain ⟨z, hz, rfl⟩ := List.mem_map.mp hy
  rw [hno z hz]
  simp

/-- the iterator, and what it has captured -/
def backV (g : Nat) : Value := .func (.func 109) #[] #[.pointer (some ⟨g, 0, none⟩)]

set_option maxHeartbeats 1000000 in
theorem backI (w : World) (na ca : Nat) (A1 : Option Addr) :
    Calls Try.prog 101 #[.slice A1 na ca] w fun e w' => e = .returned (backV w.heap.size) ∧ w' = w.alloc (.cells #[.slice A1 na ca] 23) := by
  have hmf : ∀ (fn : Fn) (first cap : Array Value) (w : World), (Instr.makeFunc fn first cap).run Try.prog w = .ok (.func fn first cap) w := fun _ _ _ _ => rfl
  go_enter Try.func101, Try.ntmps101
  go_wp2
  go_ret
  exact ⟨rfl, rfl⟩

set_option maxHeartbeats 8000000 in
set_option maxRecDepth 100000 in
theorem backC (n : Nat) (hn : 1 ≤ n) (l B n0 na ca : Nat) (A1 : Option Addr) (la : List En) (J Jx : List (Int × En) → World → Prop) (W : World) (hJ : AbidesFrom W.heap.size J)
    (hY : ∀ pre x W1, J pre W1 → pre.length < la.length → YieldAt Fence.wide (n - 1) Try.prog l #[.int .i64 x.1, enV x.2] W1 fun e W' => (e = .returned (.bool true) ∧ J (pre ++ [x]) W' ∧ Below n0 W1 W') ∨ (e = .returned (.bool false) ∧ Jx (pre ++ [x]) W'))
    (hb1 : W.cell? ⟨B, 0, none⟩ = some (.slice A1 na ca)) (hB : B < n0) (hr : Ents W n0 A1 na la) (h1 : na ≤ maxLen) (h0 : J [] W) :
    Calls Try.prog 109 #[.func (.yield l) #[] #[], .pointer (some ⟨B, 0, none⟩)] W fun e W' => (∃ v, e = .returned v) ∧ ((∃ xs, xs = backL la ∧ J xs W') ∨ (∃ pre, pre <+: backL la ∧ Jx pre W')) := by
  have hlen := hr.len
  subst hlen
  unfold maxLen at h1
  have HJ := Lib.hid hJ
  have HY := Lib.hid hY
  have HR := Lib.hid hr
  have HX1 := Lib.hid (show ∀ W', Below n0 W W' → W'.cell? ⟨B, 0, none⟩ = some (.slice A1 la.length ca) from fun W' h => (h.cell (p := ⟨B, 0, none⟩) hB).trans hb1)
  have HJ0 := Lib.hid h0
  have hz : IntKind.i64.wrap ((la.length : Int) - 1) = (la.length : Int) - 1 := i64_z _ (by omega) (by omega)
  clear hJ hY hr h0
  go_enter Try.func109, Try.ntmps109
  go_wp2_with fail
  go_loopw [3] (fun iv wr => ∃ (z : Int) (m : Nat), iv = .int .i64 z ∧ m ≤ la.length ∧ z = (m : Int) - 1 ∧ J ((backL la).take (la.length - m)) wr ∧ Below n0 W wr) (fun iv _ => (intOf iv + 1).toNat)
  case atStart => exact ⟨_, la.length, rfl, Nat.le_refl _, rfl, by rw [Nat.sub_self, List.take_zero]; exact HJ0.out, Below.refl _ _⟩
  case round =>
    obtain ⟨z, m, rfl, hm, hz2, hj, hb⟩ := hrel
    have HJO := Lib.hid hj
    have HBL := Lib.hid hb
    have bc1 := HX1.out wr hb
    clear hj hb hb1
    by_cases hlt : 0 ≤ z
    · obtain ⟨M, rfl⟩ : ∃ M, m = M + 1 := ⟨m - 1, by omega⟩
      have hMl : M < la.length := by omega
      obtain ⟨xb, xo, hA1, hxb, xc0, xc1, xc2, xc3⟩ := (HR.out.below HBL.out (Nat.le_refl _)).cell M hMl
      subst hA1
      obtain rfl : z = (M : Int) := by omega
      obtain ⟨x0, hx0⟩ : ∃ z, z = (la[M]'hMl).key := ⟨_, rfl⟩
      rw [← hx0] at xc0
      obtain ⟨x1, hx1⟩ : ∃ z, z = (la[M]'hMl).val := ⟨_, rfl⟩
      rw [← hx1] at xc1
      obtain ⟨x2, hx2⟩ : ∃ z, z = (la[M]'hMl).gone := ⟨_, rfl⟩
      rw [← hx2] at xc2
      obtain ⟨x3, hx3⟩ : ∃ z, z = (la[M]'hMl).time := ⟨_, rfl⟩
      rw [← hx3] at xc3
      have HNX := Lib.hid (show (backL la).take (la.length - M) = (backL la).take (la.length - (M + 1)) ++ [((M : Int), ⟨x0, x1, x2, x3⟩)] by
        rw [backL_step la hMl, show la[M] = ⟨x0, x1, x2, x3⟩ by rw [hx0, hx1, hx2, hx3]])
      have z0 : (0 : Int) ≤ (M : Int) := by omega
      have z1 : (M : Int) < (la.length : Int) := by omega
      have hw1 : IntKind.i64.wrap ((M : Int) - 1) = (M : Int) - 1 := i64_z _ (by omega) (by omega)
      have hyt : YieldAt Fence.wide (n - 1) Try.prog l #[.int .i64 (M : Int), .agg #[.string x0, .int .i64 x1, .bool x2, .int .i64 x3]] wr _ := HY.out _ ((M : Int), ⟨x0, x1, x2, x3⟩) wr HJO.out (by rw [List.length_take, backL_len]; omega)
      obtain ⟨fn, tmps, assign, body, hy, hR⟩ := hyt
      clear hx0 hx1 hx2 hx3 hz2 hz hlt
      go_upto_region 3 with fail
      refine (wpIn_wide (n := n)).1 ?_
      gi_wp2
      refine hR.mono ?_
      rintro e W3 (⟨rfl, hJ3, hk3⟩ | ⟨rfl, hJx3⟩)
      · have HJ3 := Lib.hid hJ3
        have HK3 := Lib.hid (HBL.out.trans hk3)
        clear hJ3 hk3
        gi_wp2
        go_wp2
        go_roundw
        case rel => exact ⟨_, M, rfl, by omega, rfl, by rw [HNX.out]; exact HJ3.out, HK3.out⟩
        case measure => simp [intOf]
      · have HJX := Lib.hid hJx3
        clear hJx3
        gi_wp2
        go_wp2
        (try simp only [Exit.inBlock, Exit.then])
        refine bodyPost_ret (results_none rfl _ _ _) rfl ?_
        exact ⟨⟨_, rfl⟩, .inr ⟨_, by rw [← HNX.out]; exact List.take_prefix _ _, HJX.out⟩⟩
    · have hm0 : m = 0 := by omega
      have HJE := Lib.hid (show J (backL la) wr by
        have h := HJO.out
        rw [hm0, Nat.sub_zero, List.take_of_length_le (by rw [backL_len]; exact Nat.le_refl _)] at h
        exact h)
      clear hm0 hz2 hz
      go_wp2
      go_end0
      exact ⟨⟨_, rfl⟩, .inl (by first | exact HJE.out | exact ⟨_, rfl, HJE.out⟩)⟩

/-- the iterator's contract -/
theorem back_stops (n : Nat) (hn : 1 ≤ n) (B n0 na ca : Nat) (A1 : Option Addr) (la : List En) (w : World) (hb1 : w.cell? ⟨B, 0, none⟩ = some (.slice A1 na ca)) (hB : B < n0) (hn0 : n0 ≤ w.heap.size) (hr : Ents w n0 A1 na la) (h1 : na ≤ maxLen) :
    SeqStopsK Fence.wide n Try.prog 109 #[.pointer (some ⟨B, 0, none⟩)] (fun x : Int × En => #[.int .i64 x.1, enV x.2]) (Below n0) (fun xs => xs = backL la) (fun pre => pre <+: backL la) la.length w := fun l J Jx W hW hJ _ hY h0 => by
  refine callsIn_wide.2 ?_
  exact backC n hn l B n0 na ca A1 la J Jx W hJ hY ((hW.cell (p := ⟨B, 0, none⟩) (by show B < _; omega)).trans hb1) hB (hr.below hW hn0) h1 h0

end Go.Proofs.Ytfpgjkanmanajaa.W
