/-
  What the texts of deeds lean on: how a text is cut and a number read (the model's), strconv.Itoa and strconv.Atoi.
-/
import Derived.Test.YtklphdomjhliaaaDoorHA
import Derived.Test.YtklphdomjhliaaaDoorC1
import Derived.Test.YtklphdomjhliaaaDoorJ3
import Derived.Test.YtklphdomjhliaaaDoorSh
import Derived.Deep.Cut
import Derived.Lib.AppendIntMem
import Derived.BigQuiet
namespace Go.Proofs.YtklphdomjhliaaaDoor.W
open Go.RowKit K R B

theorem ext_l (s : ByteArray) (a b : Nat) : s.extract a b = ofL ((s.data.toList.take b).drop a) := by
  apply ByteArray.ext
  apply Array.toList_inj.mp
  simp [ofL, List.drop_take]
theorem cur_zero (l : List UInt8) (k : Nat) : (l.take k).drop k = [] := List.drop_eq_nil_of_le (by rw [List.length_take]; omega)
theorem cur_snoc (s : ByteArray) (k f : Nat) (h : k < s.size) (hf : f ≤ k) : (s.data.toList.take (k + 1)).drop f = (s.data.toList.take k).drop f ++ [s[k]] := by
  rw [take_k s k h, List.drop_append_of_le_length (by rw [List.length_take, len_l]; omega)]
theorem drop_k (s : ByteArray) (k : Nat) (h : k < s.size) : s.data.toList.drop k = s[k] :: s.data.toList.drop (k + 1) := by
  rw [List.drop_eq_getElem_cons (by rw [len_l]; exact h)]
  congr 1
theorem split_hit (s : ByteArray) (c : UInt8) (k : Nat) (h : k < s.size) (he : s[k] = c) (cur : List UInt8) : splitGo c cur (s.data.toList.drop k) = cur :: splitGo c [] (s.data.toList.drop (k + 1)) := by
  rw [drop_k s k h, splitGo, if_pos he]
theorem split_miss (s : ByteArray) (c : UInt8) (k : Nat) (h : k < s.size) (he : s[k] ≠ c) (cur : List UInt8) : splitGo c cur (s.data.toList.drop k) = splitGo c (cur ++ [s[k]]) (s.data.toList.drop (k + 1)) := by
  rw [drop_k s k h, splitGo, if_neg he]
theorem u8_eq {a c : UInt8} : ((a.toNat : Int) = (c.toNat : Int)) ↔ a = c := by
  constructor
  · intro h; exact UInt8.toNat_inj.mp (by omega)
  · rintro rfl; rfl

/-- at the loop's head: what was cut off, and what is left -/
def CutB (w : World) (s : ByteArray) (c : UInt8) (ov fv iv : Value) (wr : World) : Prop :=
  ∃ (k f : Nat) (acc : List (List UInt8)), k ≤ s.size ∧ f ≤ k ∧ iv = .int .i64 (k : Nat) ∧ fv = .int .i64 (f : Nat) ∧ acc.length ≤ k ∧ Own wr w.heap.size ov (acc.map ofL) ∧ Below w.heap.size w wr ∧ acc ++ splitGo c ((s.data.toList.take k).drop f) (s.data.toList.drop k) = splitL c s.data.toList

set_option maxHeartbeats 4000000 in
set_option maxRecDepth 100000 in
/-- a text is cut at each byte of a kind -/
theorem splitS (s : ByteArray) (c : UInt8) (w : World) (hs : s.size ≤ 2000000) :
    Calls Tryd.prog 31 #[.string s, .int .u8 (c.toNat : Int)] w fun e w' => ∃ v, e = .returned v ∧ Own w' w.heap.size v ((splitL c s.data.toList).map ofL) ∧ Below w.heap.size w w' := by
  have hc8 := c.toNat_lt
  obtain ⟨C, hC⟩ : ∃ C : Nat, C = c.toNat := ⟨_, rfl⟩
  rw [← hC] at hc8 ⊢
  have HC := Lib.hid hC
  clear hC
  go_enter Tryd.func31, Tryd.ntmps31
  go_wp2
  go_loopw [5, 6, 7] (fun ov fv iv wr => CutB w s c ov fv iv wr) (fun _ _ iv _ => s.size - (intOf iv).toNat)
  case atStart => exact ⟨0, 0, [], Nat.zero_le _, Nat.le_refl _, rfl, rfl, Nat.le_refl _, Own.empty w _ (Nat.le_refl _), (Below.refl _ _).alloc (Nat.le_refl _) _, by simp [splitL]⟩
  case round =>
    obtain ⟨k, f, acc, hk, hf, rfl, rfl, hal, ho, hb, heq⟩ := hrel
    have HO := Lib.hid ho
    have HB := Lib.hid hb
    have HE := Lib.hid heq
    have hsz := hb.size
    clear ho hb heq
    have z0 : (0 : Int) ≤ (f : Int) := by omega
    have z1 : (f : Int) ≤ (k : Int) := by omega
    have z2 : (k : Int) ≤ (s.size : Int) := by omega
    have z3 : (f : Int) ≤ (s.size : Int) := by omega
    by_cases hlt : k < s.size
    · have hb8 := (s[k]).toNat_lt
      have z4 : (k : Int) < (s.size : Int) := by omega
      by_cases he : s[k] = c
      · have HH := Lib.hid (split_hit s c k hlt he)
        have hq : ((s[k].toNat : Nat) : Int) = (C : Int) := by rw [he, HC.out]
        have HX := Lib.hid (ext_l s f k)
        have HL : Hid ((acc.map ofL).length = acc.length) := Lib.hid (by simp)
        clear he
        go_wp2_with (at_builtin; go_must (refine app_str rfl (.tmp 20) (.tmp 25) rfl _ w.heap.size _ (acc.map ofL) rfl (HO.out.alloc _) wr.heap.size 1 (s.extract f k) rfl (cell_new _ _ _) (by rw [HL.out]; omega) (le_alloc hsz _) ?_); intro g cap w1 ho1 hg1)
        have HO1 := Lib.hid ho1
        have HB1 := Lib.hid (Below.app (HB.out.alloc hsz _) (HO.out.alloc _) (Nat.le_refl _) hg1 (le_alloc hsz _))
        clear ho1 hg1
        go_wp2
        go_roundw
        case rel =>
          refine ⟨k + 1, k + 1, acc ++ [(s.data.toList.take k).drop f], by omega, Nat.le_refl _, by go_num, by go_num, by rw [List.length_append]; simp; omega, ?_, HB1.out, ?_⟩
          · have h1 := HO1.out
            rw [HX.out] at h1
            rw [List.map_append]
            rw [HL.out] at h1
            simpa using h1
          · rw [cur_zero, ← HE.out, HH.out]; simp
        case measure => simp [intOf]; omega
      · have HH := Lib.hid (split_miss s c k hlt he)
        have hq : ¬ ((s[k].toNat : Nat) : Int) = (C : Int) := fun h => he (u8_eq.mp (by rw [HC.out] at h; exact h))
        clear he
        go_wp2
        go_roundw
        case rel =>
          exact ⟨k + 1, f, acc, by omega, by omega, by go_num, rfl, by omega, HO.out, HB.out, by rw [cur_snoc s k f hlt hf, ← HE.out, HH.out]⟩
        case measure => simp [intOf]; omega
    · have hks : k = s.size := by omega
      have HX := Lib.hid (ext_l s f s.size)
      have HL : Hid ((acc.map ofL).length = acc.length) := Lib.hid (by simp)
      have HD := Lib.hid (show s.data.toList.drop k = [] from List.drop_eq_nil_of_le (by rw [len_l]; omega))
      subst hks
      go_wp2_with (at_builtin; refine app_str rfl (.tmp 29) (.tmp 33) rfl _ w.heap.size _ (acc.map ofL) rfl (HO.out.alloc _) wr.heap.size 1 (s.extract f s.size) rfl (cell_new _ _ _) (by rw [HL.out]; omega) (le_alloc hsz _) ?_; intro g cap w1 ho1 hg1)
      have HO1 := Lib.hid ho1
      have HB1 := Lib.hid (Below.app (HB.out.alloc hsz _) (HO.out.alloc _) (Nat.le_refl _) hg1 (le_alloc hsz _))
      clear ho1 hg1
      go_wp2
      go_ret
      refine ⟨_, rfl, ?_, HB1.out⟩
      have h1 := HO1.out
      rw [HX.out] at h1
      have h2 := HE.out
      rw [HD.out] at h2
      rw [← h2]
      have h3 : (acc ++ splitGo c ((s.data.toList.take s.size).drop f) []).map ofL = acc.map ofL ++ [ofL ((s.data.toList.take s.size).drop f)] := by simp [splitGo]
      rw [h3]
      rw [HL.out] at h1
      exact h1

/-- how far a number is read -/
theorem num_k (s : ByteArray) (k n : Nat) (h : k < s.size) (hn : n < 100000) : numL n (s.data.toList.drop k) = numL (if B.digB s[k] = true then n * 10 + (s[k].toNat - 48) else n) (s.data.toList.drop (k + 1)) := by
  rw [drop_k s k h, numL, if_pos hn]
set_option maxHeartbeats 4000000 in
set_option maxRecDepth 100000 in
/-- a number is read -/
theorem numS (s : ByteArray) (w : World) (hs : s.size ≤ 2000000) :
    Calls Tryd.prog 33 #[.string s] w fun e w' => e = .returned (.int .i64 ((numL 0 s.data.toList : Nat) : Int)) ∧ w = w' := by
  go_enter Tryd.func33, Tryd.ntmps33
  go_wp2
  go_loop [3, 4] (fun nv iv => ∃ k n : Nat, k ≤ s.size ∧ iv = .int .i64 (k : Nat) ∧ nv = .int .i64 (n : Nat) ∧ n < 1000000 ∧ Hid (numL n (s.data.toList.drop k) = numL 0 s.data.toList)) (fun _ iv => s.size - (intOf iv).toNat)
  case atStart => exact ⟨0, 0, Nat.zero_le _, rfl, rfl, by omega, Lib.hid rfl⟩
  case round =>
    obtain ⟨k, n, hk, rfl, rfl, hn, HN⟩ := hrel
    by_cases hlt : k < s.size
    · have hb8 := (s[k]).toNat_lt
      have z4 : (k : Int) < (s.size : Int) := by omega
      by_cases hn5 : n < 100000
      · have HK := Lib.hid (num_k s k n hlt hn5)
        have z5 : (n : Int) < 100000 := by omega
        by_cases h1 : 48 ≤ s[k].toNat
        · by_cases h2 : s[k].toNat ≤ 57
          · have HD := Lib.hid (show B.digB s[k] = true by unfold B.digB; simp; omega)
            have z6 : (48 : Int) ≤ ((s[k].toNat : Nat) : Int) := by omega
            have z7 : ((s[k].toNat : Nat) : Int) ≤ 57 := by omega
            go_wp2
            go_round
            case rel =>
              refine ⟨k + 1, n * 10 + (s[k].toNat - 48), by omega, by go_num, by go_num, by omega, Lib.hid ?_⟩
              rw [← HN.out, HK.out, if_pos HD.out]
            case measure => simp [intOf]; omega
          · have HD := Lib.hid (show ¬ B.digB s[k] = true by unfold B.digB; simp; omega)
            have z6 : (48 : Int) ≤ ((s[k].toNat : Nat) : Int) := by omega
            have z7 : ¬ ((s[k].toNat : Nat) : Int) ≤ 57 := by omega
            go_wp2
            go_round
            case rel =>
              refine ⟨k + 1, n, by omega, by go_num, rfl, by omega, Lib.hid ?_⟩
              rw [← HN.out, HK.out, if_neg HD.out]
            case measure => simp [intOf]; omega
        · have HD := Lib.hid (show ¬ B.digB s[k] = true by unfold B.digB; simp; omega)
          have z6 : ¬ (48 : Int) ≤ ((s[k].toNat : Nat) : Int) := by omega
          go_wp2
          go_round
          case rel =>
            refine ⟨k + 1, n, by omega, by go_num, rfl, by omega, Lib.hid ?_⟩
            rw [← HN.out, HK.out, if_neg HD.out]
          case measure => simp [intOf]; omega
      · have z5 : ¬ (n : Int) < 100000 := by omega
        have HB := Lib.hid (num_big (s.data.toList.drop k) n hn5)
        go_wp2
        go_ret
        exact ⟨ret_int (by rw [← HN.out, HB.out]), rfl⟩
    · have HD := Lib.hid (show s.data.toList.drop k = [] from List.drop_eq_nil_of_le (by rw [len_l]; omega))
      have z4 : ¬ (k : Int) < (s.size : Int) := by omega
      go_wp2
      go_ret
      exact ⟨ret_int (by rw [← HN.out, HD.out]; rfl), rfl⟩

/-- the table of powers of ten lies there, whatever is laid behind -/
def Tab (w : World) : Prop := Lib.TabBelow Tryd.prog w.heap.size w "internal/strconv.uint64pow10" .u64 Lib.pow10Tab
theorem Tab.on {w w' : World} (h : Tab w) (hb : Below w.heap.size w w') : Tab w' := fun W hW => h W (hb.trans (hW.mono hb.size))
theorem itoaI (n : Nat) (w : World) (hn : n ≤ 1000000) (hT : Tab w) :
    Calls Tryd.prog 23 #[.int .i64 ((n : Nat) : Int)] w fun e w' => e = .returned (.string (ofL (decL n))) ∧ Below w.heap.size w w' := by
  refine (Any.strconv_Itoa Tryd.laysM171 (n : Int) (by omega) (by omega) w hT.here).mono ?_
  rintro e w' ⟨rfl, k, os, rfl⟩
  refine ⟨?_, Lib.below_grow _ _ (Nat.le_refl _) _ _⟩
  unfold Lib.itoa
  rw [if_neg (by omega), Int.toNat_natCast]
  rfl

/-- what the library's two errors are is known, whatever turns from block B on -/
def ErrB (B : Nat) (w : World) : Prop := ∀ W, Below B w W →
  (∃ ev, W.cell? ⟨Tryd.laysC172_ren.g 15, 0, none⟩ = some ev ∧ (ev = .nilIface ∨ ∃ te pe, ev = .iface te pe)) ∧
  (∃ ev, W.cell? ⟨Tryd.laysC172_ren.g 16, 0, none⟩ = some ev ∧ (ev = .nilIface ∨ ∃ te pe, ev = .iface te pe))
theorem ErrB.on {B : Nat} {w w' : World} (h : ErrB B w) (hb : Below B w w') : ErrB B w' := fun W hW => h W (hb.trans hW)
theorem grown_b {B g : Nat} {w w' : World} (hg : w.grownBy w' (some g)) (hB : B ≤ g) (hs : B ≤ w.heap.size) : Below B w w' := (Below.refl B w).grown hg hs (fun k hk => by injection hk with e; omega)

theorem atoiI (s : ByteArray) (B : Nat) (w : World) (hs : s.size ≤ 100000000) (hE : ErrB B w) :
    Calls Tryd.prog 47 #[.string s] w fun e w' => ∃ er, e = .returned (.tuple #[.int .i64 (atoiR s.data.toList).1, er]) ∧ ((atoiR s.data.toList).2 = true ∧ er = .nilIface ∨ (atoiR s.data.toList).2 = false ∧ ∃ te pe, er = .iface te (.pointer (some pe))) ∧ Below w.heap.size w w' := by
  obtain ⟨⟨e1, h1, h1'⟩, e2, h2, h2'⟩ := hE w (Below.refl _ _)
  unfold atoiR
  cases ha : Lib.atoiAll s.data.toList with
  | ok v =>
    refine (Any.strconv_Atoi_ok Tryd.laysC172 s (by omega) v ha w).mono ?_
    rintro e w' ⟨rfl, hw⟩
    refine ⟨_, rfl, .inl ⟨rfl, rfl⟩, ?_⟩
    rcases hw with rfl | ⟨t, rfl⟩
    · exact Below.refl _ _
    · exact Lib.bytesWorld_below _ _ _
  | «syntax» =>
    refine (Any.strconv_Atoi_syntax Tryd.laysC172 s (by omega) ha e1 w h1 h1').mono ?_
    rintro e w' ⟨N, rfl, _, _, hb⟩
    exact ⟨_, rfl, .inr ⟨rfl, _, _, rfl⟩, hb⟩
  | range =>
    refine (Any.strconv_Atoi_range Tryd.laysC172 s (by omega) ha e2 w h2 h2').mono ?_
    rintro e w' ⟨N, rfl, _, _, hb⟩
    exact ⟨_, rfl, .inr ⟨rfl, _, _, rfl⟩, hb⟩
end Go.Proofs.YtklphdomjhliaaaDoor.W
