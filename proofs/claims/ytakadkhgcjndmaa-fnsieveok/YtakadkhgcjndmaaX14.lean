/-
  Contract of the program's SieveOf: it answers as the model's.
-/
import Derived.Test.YtakadkhgcjndmaaJC
import Derived.Test.YtakadkhgcjndmaaV12
namespace Go.Proofs.Ytakadkhgcjndmaa.W
open Go.RowKit K

theorem going_all {keys : List T.Str} : T.Going keys (T.forks keys) [] := T.Going.mk (by rw [show T.nodes (T.loads []) [] = [] from rfl, List.append_nil]) (fun f hf => by cases hf) (fun f hf => by cases hf)
theorem tr_sum {keys : List T.Str} (hK : T.KeyL keys) (h24 : keys.length ≤ 24) (kp : Nat) : ((T.trN kp 1 (T.forks keys)).map List.length).sum ≤ 144 := by
  have h1 := (T.going_len hK h24 kp going_all).1
  have h2 := (T.layA_len (T.trN kp 1 (T.forks keys)) (T.svNil kp)).1
  rw [T.lay_sieve] at h2
  have h3 : (T.sieve kp keys).letters.length = (T.enc kp (T.forks keys)).letters.length := rfl
  have h4 : (T.svNil kp).letters.length = 0 := rfl
  omega

set_option maxHeartbeats 2000000 in
set_option maxRecDepth 100000 in
theorem ofYesI (w : World) (n c : Nat) (A : Option Addr) (l : List ByteArray) (kp : Nat) (hr : Strs w w.heap.size A n l) (hnc : n ≤ c) (hc : c ≤ maxLen) (hf : Fit l) (hk1 : keysB l = true) (hkp : kp ≤ 5) :
    Calls Try.prog 30 #[.slice A n c, .int .i64 kp] w (OfR w (ls l) kp) := by
  have hlen := hr.len
  subst hlen
  have hn : l.length ≤ maxLen := Nat.le_trans hnc hc
  have hb0 : Below w.heap.size w (w.alloc zeroSv) := (Below.refl _ _).alloc (Nat.le_refl _) _
  have hs0 : (w.alloc zeroSv).heap.size = w.heap.size + 1 := World.size_alloc _ _
  have hr1 : Strs (w.alloc zeroSv) (w.alloc zeroSv).heap.size A l.length l := (hr.below hb0 (Nat.le_refl _)).more (by omega)
  have HKY := Lib.hid (show Calls Try.prog 75 #[.slice A l.length c] (w.alloc zeroSv) fun e w' => e = .returned (.bool true) ∧ w.alloc zeroSv = w' by
    have h1 := keysI (w.alloc zeroSv) _ l.length c A l hr1 hn hf
    rw [hk1] at h1; exact h1)
  have HIN := Lib.hid (show ∀ W : World, Calls Try.prog 76 #[.int .i64 kp] W fun e w' => e = .returned (.bool true) ∧ W = w' from fun W => by
    have h1 := keepI kp W
    have h2 : inB kp 0 5 = true := by unfold inB; exact decide_eq_true ⟨by omega, by omega⟩
    rw [h2] at h1; exact h1)
  have h24 : (ls l).length ≤ 24 := by rw [ls_len]; exact (keys_iff.mp hk1).1
  have HKL := Lib.hid (keyL_of hk1)
  have HTR := Lib.hid (trieI (w.alloc zeroSv) l.length c A l kp hr1 hnc hc hk1 hkp)
  have HSUM := Lib.hid (tr_sum HKL.out h24 kp)
  have HLEN := Lib.hid (show (T.trN kp 1 (T.forks (ls l))).length ≤ 145 by rw [T.trN_len]; exact forks_le HKL.out h24)
  clear hr hf hk1 hr1
  go_enter Try.func30, Try.ntmps30
  go_wp2_with fail
  go_at_call 75
  refine HKY.out.mono ?_
  rintro e w1 ⟨rfl, hw1⟩
  subst hw1
  go_wp2_with fail
  go_at_call 76
  refine (HIN.out _).mono ?_
  rintro e w1 ⟨rfl, hw1⟩
  subst hw1
  go_wp2_with fail
  go_at_call 77
  refine HTR.out.mono ?_
  rintro e w1 ⟨At, nt, ct, rfl, htr, hnt, hct, hb1⟩
  have HSV := Lib.hid (sieveI _ At nt ct kp w1 htr (by have h1 := htr.len; have := HLEN.out; omega) (by have := HSUM.out; omega))
  have HB1 := Lib.hid hb1
  have hsz1 := hb1.size
  clear htr hb1
  go_wp2_with fail
  go_at_call 78
  refine HSV.out.mono ?_
  rw [T.lay_sieve]
  rintro e w2 ⟨v, rfl, hown, hb2⟩
  have hbx : w2.heap[w.heap.size]? = some zeroSv := by
    rw [hb2.block _ (by omega), HB1.out.block _ (by omega)]
    exact heap_alloc_new _ _
  have hr0 : w2.cell? ⟨w.heap.size, 0, none⟩ = some (.string ⟨#[]⟩) := by rw [cell_of_row _ _ _ _ _ _ hbx]; rfl
  have hr1 : w2.cell? ⟨w.heap.size, 1, none⟩ = some (.string ⟨#[]⟩) := by rw [cell_of_row _ _ _ _ _ _ hbx]; rfl
  have hr2 : w2.cell? ⟨w.heap.size, 2, none⟩ = some (.string ⟨#[]⟩) := by rw [cell_of_row _ _ _ _ _ _ hbx]; rfl
  have hr3 : w2.cell? ⟨w.heap.size, 3, none⟩ = some (.slice none 0 0) := by rw [cell_of_row _ _ _ _ _ _ hbx]; rfl
  have hr4 : w2.cell? ⟨w.heap.size, 4, none⟩ = some (.int .i64 0) := by rw [cell_of_row _ _ _ _ _ _ hbx]; rfl
  have hz0 : w2.frozen? ⟨w.heap.size, 0, none⟩ = false := by rw [frozen_of_row _ _ _ _ _ hbx]
  have hz1 : w2.frozen? ⟨w.heap.size, 1, none⟩ = false := by rw [frozen_of_row _ _ _ _ _ hbx]
  have hz2 : w2.frozen? ⟨w.heap.size, 2, none⟩ = false := by rw [frozen_of_row _ _ _ _ _ hbx]
  have hz3 : w2.frozen? ⟨w.heap.size, 3, none⟩ = false := by rw [frozen_of_row _ _ _ _ _ hbx]
  have hz4 : w2.frozen? ⟨w.heap.size, 4, none⟩ = false := by rw [frozen_of_row _ _ _ _ _ hbx]
  have HBX := Lib.hid hbx
  obtain ⟨A3, c3, hv3, -, -, -⟩ := hown.parts
  obtain ⟨nR, hnR⟩ : ∃ n, n = ((T.sieve kp (ls l)).rests.map ba).length := ⟨_, rfl⟩
  rw [← hnR] at hv3
  subst hv3
  have HOW := Lib.hid hown
  have HBB := Lib.hid (hb0.trans ((HB1.out.mono (by omega)).trans (hb2.mono (by omega))))
  have hkk : (T.sieve kp (ls l)).keep = kp := rfl
  rw [hkk]
  obtain ⟨z1, hz1e⟩ : ∃ z, z = ba (T.sieve kp (ls l)).letters := ⟨_, rfl⟩
  obtain ⟨z2, hz2e⟩ : ∃ z, z = ba (T.sieve kp (ls l)).more := ⟨_, rfl⟩
  obtain ⟨z3, hz3e⟩ : ∃ z, z = ba (T.sieve kp (ls l)).first := ⟨_, rfl⟩
  rw [← hz1e, ← hz2e, ← hz3e]
  have Z1 := Lib.hid hz1e
  have Z2 := Lib.hid hz2e
  have Z3 := Lib.hid hz3e
  clear hbx hown hb2 hnR hz1e hz2e hz3e hkk
  go_wp2
  (try simp only [Exit.inBlock, Exit.then])
  have h5 := agree89 w2 w.heap.size (.string z1) (.string z2) (.string z3) (.slice A3 nR c3) (.int .i64 kp)
  refine bodyPost_ret (v := .tuple #[.agg #[.string z1, .string z2, .string z3, .slice A3 nR c3, .int .i64 kp], .bool true]) ?_ rfl ⟨.slice A3 nR c3, by rw [Z1.out, Z2.out, Z3.out], ?_, ?_⟩
  · exact ret_pair rfl _ _ w.heap.size _ _ rfl rfl (load_sieve (box_five HBX.out _ _ _ _ _))
  · exact (HOW.out.agree h5 (fun k hk e => by have := (HOW.out.lt hk).1; have e' : k = w.heap.size := e; omega)).base (by omega)
  · have hb := HBB.out
    refine ⟨by rw [os_set, os_set, os_set, os_set, os_set]; exact hb.os, by rw [tape_set, tape_set, tape_set, tape_set, tape_set]; exact hb.tape, by rw [out_set, out_set, out_set, out_set, out_set]; exact hb.output, Nat.le_trans hb.size h5.size, fun k hk => ?_⟩
    rw [h5.block k (by have := hb.size; omega) (fun e => by have e' : k = w.heap.size := e; omega)]
    exact hb.block k hk

set_option maxHeartbeats 1000000 in
theorem ofNoI (w : World) (n c : Nat) (A : Option Addr) (l : List ByteArray) (keep : Int) (hr : Strs w w.heap.size A n l) (hnc : n ≤ c) (hc : c ≤ maxLen) (hf : Fit l) (hk : keysB l = false ∨ (keysB l = true ∧ inB keep 0 5 = false)) :
    Calls Try.prog 30 #[.slice A n c, .int .i64 keep] w (NoSv w) := by
  have hlen := hr.len
  subst hlen
  have hn : l.length ≤ maxLen := Nat.le_trans hnc hc
  have hb0 : Below w.heap.size w (w.alloc zeroSv) := (Below.refl _ _).alloc (Nat.le_refl _) _
  have hs0 : (w.alloc zeroSv).heap.size = w.heap.size + 1 := World.size_alloc _ _
  have hr1 : Strs (w.alloc zeroSv) (w.alloc zeroSv).heap.size A l.length l := (hr.below hb0 (Nat.le_refl _)).more (by omega)
  have HKY := Lib.hid (keysI (w.alloc zeroSv) _ l.length c A l hr1 hn hf)
  have HIN := Lib.hid (fun W : World => keepI keep W)
  clear hr hf hr1 hb0 hs0
  rcases hk with hk | ⟨hk, hi⟩
  · rw [hk] at HKY
    go_enter Try.func30, Try.ntmps30
    go_wp2_with (go_at_call 75; refine HKY.out.mono ?_; rintro e w1 ⟨rfl, hw1⟩; subst hw1)
    (try simp only [Exit.inBlock, Exit.then])
    refine bodyPost_ret (v := .tuple #[.agg #[.string ⟨#[]⟩, .string ⟨#[]⟩, .string ⟨#[]⟩, .slice none 0 0, .int .i64 0], .bool false]) ?_ rfl ⟨rfl, ?_⟩
    · exact ret_pair rfl _ _ w.heap.size _ _ rfl rfl (load_sieve (heap_alloc_new w _))
    · exact (Below.refl _ _).alloc (Nat.le_refl _) _
  · rw [hk] at HKY
    rw [hi] at HIN
    go_enter Try.func30, Try.ntmps30
    go_wp2_with (first
      | (go_at_call 75; refine HKY.out.mono ?_; rintro e w1 ⟨rfl, hw1⟩; subst hw1)
      | (go_at_call 76; refine (HIN.out _).mono ?_; rintro e w2 ⟨rfl, hw2⟩; subst hw2))
    (try simp only [Exit.inBlock, Exit.then])
    refine bodyPost_ret (v := .tuple #[.agg #[.string ⟨#[]⟩, .string ⟨#[]⟩, .string ⟨#[]⟩, .slice none 0 0, .int .i64 0], .bool false]) ?_ rfl ⟨rfl, ?_⟩
    · exact ret_pair rfl _ _ w.heap.size _ _ rfl rfl (load_sieve (heap_alloc_new w _))
    · exact (Below.refl _ _).alloc (Nat.le_refl _) _
theorem ofI (w : World) (n c : Nat) (A : Option Addr) (l : List ByteArray) (keep : Int) (hr : Strs w w.heap.size A n l) (hnc : n ≤ c) (hc : c ≤ maxLen) (hf : Fit l) :
    Calls Try.prog 30 #[.slice A n c, .int .i64 keep] w (OfA w l keep) := by
  rcases Bool.eq_false_or_eq_true (keysB l) with hk | hk
  · rcases Bool.eq_false_or_eq_true (inB keep 0 5) with hi | hi
    · have h5 : 0 ≤ keep ∧ keep ≤ 5 := by unfold inB at hi; exact of_decide_eq_true hi
      obtain ⟨kp, rfl⟩ := Int.eq_ofNat_of_zero_le h5.1
      exact (ofYesI w n c A l kp hr hnc hc hf hk (by omega)).mono fun e w' h => .inl ⟨hk, hi, by rw [Int.toNat_natCast]; exact h⟩
    · exact (ofNoI w n c A l keep hr hnc hc hf (.inr ⟨hk, hi⟩)).mono fun e w' h => .inr ⟨.inr hi, h⟩
  · exact (ofNoI w n c A l keep hr hnc hc hf (.inl hk)).mono fun e w' h => .inr ⟨.inl hk, h⟩

end Go.Proofs.Ytakadkhgcjndmaa.W
