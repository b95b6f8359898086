/-
  Contracts of the model's texts of runs, and of its BlockText.
-/
import Derived.Test.YtbckgmfopbpocaaB3
import Derived.Test.YtbckgmfopbpocaaEI
import Derived.Deep.Cut
namespace Go.Proofs.Ytbckgmfopbpocaa.W
open Go.RowKit K R B

theorem run_snoc (l : List En) (k : Nat) (h : k < l.length) : ofL (runL (l.take (k + 1))) = ofL (runL (l.take k)) ++ ofL (enL l[k]) := by
  rw [List.take_succ_eq_append_getElem h, run_app, ofL_app]
  congr 1
  unfold runL; simp
theorem run_size {l : List En} (h : ∀ e ∈ l, okE e = true) (k : Nat) (hk : k ≤ 40) : (ofL (runL (l.take k))).size ≤ 520 := by
  rw [ofL_size]
  have := run_leng (l := l.take k) (fun e he => h e (List.mem_of_mem_take he))
  have h2 : (l.take k).length ≤ k := by rw [List.length_take]; omega
  omega
theorem en_size {e : En} (h : okE e = true) : (ofL (enL e)).size ≤ 13 := by
  rw [ofL_size]; unfold enL; rw [List.length_append]; have := body_len h; simp; omega

set_option maxHeartbeats 4000000 in
set_option maxRecDepth 100000 in
/-- the texts of entries, one behind the other -/
theorem runTS (w : World) (B n c : Nat) (A : Option Addr) (l : List En) (hr : Ents w B A n l) (hB : B ≤ w.heap.size) (hn : n ≤ 40) (hf : ∀ e ∈ l, okE e = true) :
    Calls Try.prog 9 #[.slice A n c] w fun e w' => e = .returned (.string (ofL (runL l))) ∧ Below w.heap.size w w' := by
  have hlen := hr.len
  subst hlen
  have HR := Lib.hid hr
  clear hr
  go_enter Try.func9, Try.ntmps9
  go_wp2_with fail
  go_loopw [3, 4] (fun o i wr => ∃ k : Nat, k ≤ l.length ∧ i = .int .i64 (k : Nat) ∧ o = .string (ofL (runL (l.take k))) ∧ Below w.heap.size w wr) (fun _ i _ => l.length - (intOf i).toNat)
  case atStart => exact ⟨0, Nat.zero_le _, rfl, rfl, Below.refl _ _⟩
  case round =>
    obtain ⟨k, hk, rfl, rfl, hbl⟩ := hrel
    have HBL := Lib.hid hbl
    clear hbl
    by_cases hlt : k < l.length
    · obtain ⟨kb, ko, hA, hkb, c0, c1, c2, c3⟩ := HR.out.cell k hlt
      subst hA
      obtain ⟨x0, hx0⟩ : ∃ y, y = l[k].key := ⟨_, rfl⟩
      obtain ⟨x1, hx1⟩ : ∃ y, y = l[k].val := ⟨_, rfl⟩
      obtain ⟨x2, hx2⟩ : ∃ y, y = l[k].gone := ⟨_, rfl⟩
      obtain ⟨x3, hx3⟩ : ∃ y, y = l[k].time := ⟨_, rfl⟩
      rw [← hx0] at c0
      rw [← hx1] at c1
      rw [← hx2] at c2
      rw [← hx3] at c3
      have hkb' : kb < w.heap.size := Nat.lt_of_lt_of_le hkb hB
      have r0 : wr.cell? ⟨kb, ko + k * 4, none⟩ = some (.string x0) := (HBL.out.cell (p := ⟨kb, ko + k * 4, none⟩) hkb').trans c0
      have r1 : wr.cell? ⟨kb, ko + k * 4 + 1, none⟩ = some (.int .i64 x1) := (HBL.out.cell (p := ⟨kb, ko + k * 4 + 1, none⟩) hkb').trans c1
      have r2 : wr.cell? ⟨kb, ko + k * 4 + 2, none⟩ = some (.bool x2) := (HBL.out.cell (p := ⟨kb, ko + k * 4 + 2, none⟩) hkb').trans c2
      have r3 : wr.cell? ⟨kb, ko + k * 4 + 3, none⟩ = some (.int .i64 x3) := (HBL.out.cell (p := ⟨kb, ko + k * 4 + 3, none⟩) hkb').trans c3
      have hok := hf _ (List.getElem_mem hlt)
      obtain ⟨a1, -, a3, a4, -, a6, a7⟩ := okE_all hok
      have hE := entS x0 x1 x2 x3 wr (by rw [hx0]; exact a1) (by rw [hx1]; exact a3) (by rw [hx1]; omega) (by rw [hx3]; omega) (by rw [hx3]; exact a7)
      rw [show (⟨x0, x1, x2, x3⟩ : En) = l[k] by rw [hx0, hx1, hx2, hx3]] at hE
      have hs1 := run_size hf k (by omega)
      have hs2 := en_size hok
      have hsn := run_snoc l k hlt
      obtain ⟨O, hO⟩ : ∃ O, O = ofL (runL (l.take k)) := ⟨_, rfl⟩
      obtain ⟨X, hX⟩ : ∃ X, X = ofL (enL l[k]) := ⟨_, rfl⟩
      rw [← hO] at hs1 hsn ⊢
      rw [← hX] at hs2 hsn hE
      have HSN := Lib.hid hsn
      have HE := Lib.hid hE
      have z0 : (0 : Int) ≤ (k : Int) := by omega
      have z1 : (k : Int) < (l.length : Int) := by omega
      clear hO hX hsn hE hx0 hx1 hx2 hx3 c0 c1 c2 c3 a1 a3 a4 a6 a7 hok
      go_wp2_with (go_at_call 12; refine Calls.mono HE.out ?_; rintro e w2 ⟨rfl, hb2⟩; have HB2 := Lib.hid hb2; clear hb2)
      go_roundw
      case rel => exact ⟨k + 1, by omega, by go_num, by rw [HSN.out], HBL.out.trans (HB2.out.mono HBL.out.size)⟩
      case measure => simp [intOf]; omega
    · have hke : l.take k = l := List.take_of_length_le (by omega)
      have HK := Lib.hid hke
      clear hke
      go_wp2
      go_ret
      exact ⟨by rw [HK.out]; rfl, HBL.out⟩

theorem sum_of (l : List UInt8) : sumB (ofL l).data.toList = sumB l := by rw [ofL_data]
theorem seal_is (l : List UInt8) : ofL l ++ (⟨#[33]⟩ : ByteArray) ++ ofL (decL (sumB l)) = ofL (sealL l) := by
  unfold sealL
  rw [show (33 : UInt8) :: decL (sumB l) = [33] ++ decL (sumB l) from rfl, ofL_app, ofL_app, ByteArray.append_assoc]
  rfl
end Go.Proofs.Ytbckgmfopbpocaa.W
