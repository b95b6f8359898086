/-
  Contracts of the sum of a text (the program's and the model's) and of the model's decimals.
-/
import Derived.Test.YtklphdomjhliaaaDoorB1
import Derived.Test.YtklphdomjhliaaaDoorJ3
import Derived.Deep.RegionWith
namespace Go.Proofs.YtklphdomjhliaaaDoor.W
open Go.RowKit K R B

/-- what of a text was summed up to k -/
theorem sum_k (s : ByteArray) (k : Nat) (h : k < s.size) : sumB (s.data.toList.take (k + 1)) = stepS (sumB (s.data.toList.take k)) s[k] := by
  rw [take_k s k h, sum_snoc]
theorem sum_end (s : ByteArray) (k : Nat) (h : ¬ k < s.size) : sumB (s.data.toList.take k) = sumB s.data.toList := by
  rw [List.take_of_length_le (by rw [len_l]; omega)]
theorem step_int (n : Nat) (b : UInt8) : ((n : Int) * 31 + (b.toNat : Int) + 1).tmod 9973 = ((stepS n b : Nat) : Int) := by
  unfold stepS
  rw [Int.tmod_eq_emod_of_nonneg (by omega)]
  omega

theorem z64 (a : Int) (h1 : -9223372036854775808 ≤ a) (h2 : a ≤ 9223372036854775807) : IntKind.i64.wrap a = a := IntWalk.i64_in _ ⟨by omega, by omega⟩
/-- a slice of one byte as a string, in whatever world -/
theorem convAt (W : World) (b : Nat) (x : Int) (d : Nat) (hx : x = (d : Nat)) (h : W.cell? ⟨b, 0, none⟩ = some (.int .u8 x)) :
    (convert 22 9 (.slice (some ⟨b, 0, none⟩) 1 1)).run Tryd.prog W = .ok (.string (ofL [UInt8.ofNat d])) W := by
  subst hx
  rw [run_convert_bytes_string _ _ _ _ _ _ _ Tryd.underlying22 Tryd.underlying5 Tryd.underlying9]
  rw [run_bytesToString (P := Tryd.prog) _ ⟨b, 0, none⟩ 1 1 [(d : Int)] ?_]
  · rfl
  · simp [loadCells, loadCellsFrom, Addr.add, h]

set_option maxHeartbeats 4000000 in
set_option maxRecDepth 100000 in
/-- a number in decimals -/
theorem decS (n : Nat) : ∀ (w : World), n < 100000 →
    Calls Tryd.prog 27 #[.int .i64 ((n : Nat) : Int)] w fun e w' => e = .returned (.string (ofL (decL n))) ∧ Below w.heap.size w w' := by
  induction n using Nat.strongRecOn with
  | _ n ih =>
    intro w hn
    by_cases h : n < 10
    · have HD := Lib.hid (dec_small h)
      have hcv := convAt (w.alloc (.cells #[.int .u8 (48 + (n : Int))] 5)) w.heap.size (48 + (n : Int)) (48 + n) (by omega) (cell_new w _ _)
      obtain ⟨C, hC⟩ : ∃ C, C = ofL [UInt8.ofNat (48 + n)] := ⟨_, rfl⟩
      rw [← hC] at hcv
      have HC := Lib.hid hC
      clear ih hC
      go_enter Tryd.func27, Tryd.ntmps27
      go_wp2
      go_ret
      exact ⟨by rw [HD.out, ← HC.out]; rfl, (Below.refl _ _).alloc (Nat.le_refl _) _⟩
    · have HD := Lib.hid (dec_big h)
      have hsz : (decL (n / 10)).length ≤ 5 := dec_len _ 4 (by omega)
      obtain ⟨D, hDD⟩ : ∃ D, D = ofL (decL (n / 10)) := ⟨_, rfl⟩
      have hD : D.size ≤ 5 := by rw [hDD, ofL_size]; exact hsz
      have HDD := Lib.hid hDD
      obtain ⟨Q, hQ⟩ : ∃ Q : Int, Q = (n : Int) / 10 := ⟨_, rfl⟩
      obtain ⟨R, hR⟩ : ∃ R : Int, R = (n : Int) % 10 := ⟨_, rfl⟩
      obtain ⟨S, hS⟩ : ∃ S : Int, S = 48 + R := ⟨_, rfl⟩
      have hR0 : 0 ≤ R := by omega
      have hR1 : R < 10 := by omega
      have e1 : IntKind.i64.wrap ((n : Int) / 10) = Q := by rw [hQ]; exact z64 _ (by omega) (by omega)
      have e1' : IntKind.i64.wrap ((n : Int).tdiv 10) = Q := by rw [Int.tdiv_eq_ediv_of_nonneg (by omega)]; exact e1
      have e2 : (n : Int).tmod 10 = R := by rw [Int.tmod_eq_emod_of_nonneg (by omega)]; exact hR.symm
      have e3 : IntKind.i64.wrap (48 + R) = S := by rw [hS]; exact z64 _ (by omega) (by omega)
      have e4 : IntKind.u8.wrap S = S := by rw [hS]; unfold IntKind.wrap; simp [IntKind.signed, IntKind.bits]; omega
      have IH := Lib.hid (show ∀ W : World, Calls Tryd.prog 27 #[.int .i64 Q] W fun e w' => e = .returned (.string D) ∧ Below W.heap.size W w' from fun W => by rw [hDD, hQ]; have := ih (n / 10) (by omega) W (by omega); rwa [show ((n / 10 : Nat) : Int) = (n : Int) / 10 by omega] at this)
      have hcv := fun W b h => convAt W b S (48 + n % 10) (by omega) h
      obtain ⟨C, hC⟩ : ∃ C, C = ofL [UInt8.ofNat (48 + n % 10)] := ⟨_, rfl⟩
      rw [← hC] at hcv
      have hCs : C.size = 1 := by rw [hC, ofL_size]; rfl
      have HC := Lib.hid hC
      clear ih hDD hC hsz hQ hR hS
      go_enter Tryd.func27, Tryd.ntmps27
      go_wp2
      go_region_with ((go_at_call 27; refine (IH.out _).mono ?_; rintro e w2 ⟨rfl, hb2⟩; (try have hc2 : w2.cell? ⟨w.heap.size, 0, none⟩ = some (.int .u8 S) := (hb2.cell (p := ⟨w.heap.size, 0, none⟩) (by simp)).trans (cell_new w _ _))))
      all_goals
        go_wp2
        go_ret
        refine ⟨by rw [HD.out, ofL_app, ← HDD.out, ← HC.out]; rfl, ?_⟩
        clear HD IH hcv
        first
          | exact (Below.of_drew hb2).alloc (Below.of_drew hb2).size _
          | exact ((Below.refl w.heap.size w).alloc (Nat.le_refl _) _).trans ((Below.of_drew hb2).mono (by simp))

end Go.Proofs.YtklphdomjhliaaaDoor.W
