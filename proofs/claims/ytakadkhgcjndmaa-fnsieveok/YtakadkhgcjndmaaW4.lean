/-
  The contract of the program's bitsWords: bits packed into seven words, the first bit lowest.
-/
import Derived.Test.YtakadkhgcjndmaaW3
import Derived.StillTailTactics
import Derived.Laws.CopyOwn
namespace Go.Proofs.Ytakadkhgcjndmaa.W
open Go.RowKit M

def wv (l : List UInt8) (j : Nat) : Value := .int .u64 (word l j : Nat)
def wordsA (l : List UInt8) : Array Value := #[wv l 0, wv l 1, wv l 2, wv l 3, wv l 4, wv l 5, wv l 6]
def zerosA : Array Value := #[.int .u64 0, .int .u64 0, .int .u64 0, .int .u64 0, .int .u64 0, .int .u64 0, .int .u64 0]

theorem wordsA_one (l : List UInt8) : (wordsA l).all (·.oneCell') = true := by simp [wordsA, wv, Value.oneCell']
theorem wordsA_size (l : List UInt8) : zerosA.size = (wordsA l).size := rfl
theorem wordsA_info (l : List UInt8) : (Try.prog.info? 90).map (·.size) = some (wordsA l).size := by kernel_rfl
theorem wordsA_nil : wordsA [] = zerosA := by simp [wordsA, wv, word_nil, zerosA]
theorem wordsA_at (l : List UInt8) (j : Nat) (h : j < 7) : (wordsA l)[j]? = some (wv l j) := by
  match j, h with
  | 0, _ => rfl
  | 1, _ => rfl
  | 2, _ => rfl
  | 3, _ => rfl
  | 4, _ => rfl
  | 5, _ => rfl
  | 6, _ => rfl

/-- the words of the first k bits are laid -/
structure Packed (s : ByteArray) (w wr : World) (k : Nat) : Prop where
  below : Below w.heap.size w wr
  size : wr.heap.size = w.heap.size + 2
  res : wr.heap[w.heap.size]? = some (.cells zerosA 90)
  words : wr.heap[w.heap.size + 1]? = some (.cells (wordsA (s.data.toList.take k)) 90)

theorem packed_start (s : ByteArray) (w : World) : Packed s w ((w.alloc (.cells zerosA 90)).alloc (.cells zerosA 90)) 0 := by
  refine ⟨?_, ?_, ?_, ?_⟩
  · exact ((Below.refl _ _).alloc (Nat.le_refl _) _).alloc (by simp) _
  · simp
  · exact heap_alloc2_old w _ _
  · rw [heap_alloc2_new, List.take_zero, wordsA_nil]

theorem bit_of (s : ByteArray) (k : Nat) (h : k < s.size) (hok : allOk s.data.toList) : ∃ b : Nat, IntKind.u8.wrap ((s[k].toNat : Int) - 48) = (b : Int) ∧ b ≤ 1 ∧ b = (if s[k] = 49 then 1 else 0) := by
  have hc : bitC s[k] = true := List.all_eq_true.mp hok _ (List.mem_of_getElem? (at_k s k h))
  unfold bitC at hc
  rcases (by simpa using hc : s[k] = 48 ∨ s[k] = 49) with h | h
  · exact ⟨0, by rw [h]; rfl, by omega, by rw [h]; rfl⟩
  · exact ⟨1, by rw [h]; rfl, by omega, by rw [h]; rfl⟩

theorem shl_of (b r : Nat) (hb : b ≤ 1) (hr : r < 64) : ∃ B : Nat, IntKind.u64.wrap ((b : Int) * 2 ^ r) = (B : Int) ∧ B = b * 2 ^ r ∧ B < 18446744073709551616 := by
  have hp : 2 ^ r ≤ 2 ^ 63 := Nat.pow_le_pow_right (by omega) (by omega)
  have hlt : b * 2 ^ r < 18446744073709551616 := by
    rcases (by omega : b = 0 ∨ b = 1) with rfl | rfl <;> omega
  refine ⟨b * 2 ^ r, ?_, rfl, hlt⟩
  have e : (b : Int) * 2 ^ r = ((b * 2 ^ r : Nat) : Int) := by simp
  rw [e, IntWalk.u64_in _ ⟨by omega, by omega⟩]

theorem wordsA_set (l : List UInt8) (c : UInt8) (b : Nat) (hl : l.length < 448) (hb : b = (if c = 49 then 1 else 0)) :
    (wordsA l).setIfInBounds (l.length / 64) (.int .u64 ((word l (l.length / 64) ||| b * 2 ^ (l.length % 64) : Nat) : Int)) = wordsA (l ++ [c]) := by
  apply Array.ext_getElem?
  intro j
  rw [Array.getElem?_setIfInBounds]
  by_cases hj : j < 7
  · rw [wordsA_at _ _ hj, wordsA_at _ _ hj]
    unfold wv
    rw [word_snoc]
    by_cases h : l.length / 64 = j
    · subst h
      have h7 : l.length / 64 < (wordsA l).size := by show l.length / 64 < 7; omega
      rw [if_pos rfl, if_pos h7, if_pos rfl, hb]
    · rw [if_neg h, if_neg (fun e => h e.symm)]
  · have h1 : (wordsA l)[j]? = none := Array.getElem?_eq_none (by show 7 ≤ j; omega)
    have h2 : (wordsA (l ++ [c]))[j]? = none := Array.getElem?_eq_none (by show 7 ≤ j; omega)
    rw [h1, h2, if_neg (by omega)]

theorem packed_step {s : ByteArray} {w wr : World} {k q r b B : Nat} (hp : Packed s w wr k) (hlt : k < s.size) (hq : k / 64 = q) (hr : k % 64 = r) (hs : s.size ≤ 400) (hb : b = (if s[k] = 49 then 1 else 0)) (hB : B = b * 2 ^ r) :
    Packed s w (wr.drew.setCell ⟨w.heap.size + 1, q, none⟩ (.int .u64 ((word (s.data.toList.take k) q ||| B : Nat) : Int))) (k + 1) := by
  refine ⟨(hp.below.drew).setCell (by simp) _, ?_, ?_, ?_⟩
  · rw [World.size_setCell]; exact hp.size
  · rw [heap_setCell_other _ _ _ _ (by simp)]; exact hp.res
  · have hw : wr.drew.heap[w.heap.size + 1]? = some (.cells (wordsA (s.data.toList.take k)) 90 (0, 0)) := hp.words
    rw [heap_setCell_same _ _ _ _ _ _ hw, take_k s k hlt]
    have hlen : (s.data.toList.take k).length = k := by rw [List.length_take, len_l]; omega
    have := wordsA_set (s.data.toList.take k) s[k] b (by omega) hb
    rw [hlen] at this
    subst hq hr hB
    rw [this]

set_option maxRecDepth 8000 in
set_option maxHeartbeats 400000 in
theorem bitsWordsI (s : ByteArray) (w : World) (hs : s.size ≤ 400) (hok : allOk s.data.toList) :
    Calls Try.prog 90 #[.string s] w fun e w' => e = .returned (.agg (wordsA s.data.toList)) ∧ Below w.heap.size w w' := by
  go_enter Try.func90, Try.ntmps90
  go_wp2
  go_loopw [7] (fun i wr => ∃ k : Nat, k ≤ s.size ∧ i = .int .i64 k ∧ Packed s w wr k) (fun i _ => s.size - (intOf i).toNat)
  case atStart => exact ⟨0, Nat.zero_le _, rfl, packed_start s w⟩
  case round =>
    obtain ⟨k, hk, rfl, hp⟩ := hrel
    by_cases hlt : k < s.size
    · obtain ⟨q, hq⟩ : ∃ q : Nat, (q : Int) = (k : Int) / 64 := ⟨k / 64, by simp⟩
      obtain ⟨r, hr⟩ : ∃ r : Nat, (r : Int) = (k : Int) % 64 := ⟨k % 64, by simp⟩
      have hq7 : q < 7 := by omega
      have hr64 : r < 64 := by omega
      have hcell : wr.cell? ⟨w.heap.size + 1, q, none⟩ = some (wv (s.data.toList.take k) q) := by rw [cell_of_row _ _ _ _ _ _ hp.words, wordsA_at _ _ hq7]
      have hfz : wr.frozen? ⟨w.heap.size + 1, q, none⟩ = false := frozen_of_row _ _ _ _ _ hp.words
      have hq' := hq.symm
      have hr' := hr.symm
      have HP := Lib.hid hp
      clear hp hq hr
      unfold wv at hcell
      obtain ⟨b, hb, hb1, hbc⟩ : ∃ b : Nat, IntKind.u8.wrap ((s[k].toNat : Int) - 48) = (b : Int) ∧ b ≤ 1 ∧ b = (if s[k] = 49 then 1 else 0) := bit_of s k hlt hok
      have HBC := Lib.hid hbc
      clear hbc hok
      have hbw : IntKind.u64.wrap (b : Int) = b := IntWalk.u64_in _ ⟨by omega, by omega⟩
      have hqw : IntKind.i64.wrap (q : Int) = q := IntWalk.i64_in _ ⟨by omega, by omega⟩
      have hrw : IntKind.i64.wrap (r : Int) = r := IntWalk.i64_in _ ⟨by omega, by omega⟩
      have hq0 : (0 : Int) ≤ (q : Int) := by omega
      have hq1 : (q : Int) < 7 := by omega
      have hr0 : (0 : Int) ≤ (r : Int) := by omega
      have htm : (k : Int).tmod 64 = (r : Int) := by rw [Int.tmod_eq_emod_of_nonneg (by omega)]; omega
      have hmin : min r 64 = r := by omega
      obtain ⟨B, hB, hBv, hBlt⟩ := shl_of b r hb1 hr64
      have HBV := Lib.hid hBv
      clear hBv
      have hor := u64_or_nat (word (s.data.toList.take k) q) B (word_lt _ _) hBlt
      have HBL := Lib.hid hBlt
      clear hBlt
      go_wp2
      go_still_tail 14, (by kernel_rfl)
      change wpList _ _ _ _ _ wr.drew
      have hcell2 : wr.drew.cell? ⟨w.heap.size + 1, q, none⟩ = some (Value.int IntKind.u64 ↑(word (List.take k s.data.toList) q)) := hcell
      have hfz2 : wr.drew.frozen? ⟨w.heap.size + 1, q, none⟩ = false := hfz
      go_wp2
      go_roundw
      case rel => exact ⟨k + 1, by omega, by go_num, packed_step HP.out hlt (by omega) (by omega) hs HBC.out HBV.out⟩
      case measure => simp [intOf]; omega
    · have e : s.data.toList.take k = s.data.toList := List.take_of_length_le (by rw [len_l]; omega)
      have hpw := hp.words
      rw [e] at hpw
      clear e
      have hpr := hp.res
      have HP := Lib.hid hp
      clear hp
      go_wp2_with (first | (refine wpList_load_row rfl 90 _ rfl (w.heap.size + 1) rfl 90 _ (0, 0) _ hpw Try.underlying90 rfl (by kernel_rfl) ?_) | (refine wpList_store_row rfl 90 _ _ rfl w.heap.size (wordsA s.data.toList) rfl rfl 90 _ hpr (wordsA_info _) (wordsA_size _) (wordsA_one _) ?_))
      refine bodyPost_ret (results_cell_row rfl _ _ w.heap.size 90 (wordsA s.data.toList) (0, 0) _ rfl (setRow_heap _ _ _ _ _ _ hpr) Try.underlying90 rfl (by kernel_rfl)) rfl ⟨rfl, below_setRow HP.out.below (Nat.le_refl _) _⟩

end Go.Proofs.Ytakadkhgcjndmaa.W
