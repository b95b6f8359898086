/-
  Contracts of the program's sortedOnce (with strings.Compare) and KeysSort, and with them all that the laws of keys ask of the program.
-/
import Derived.Test.YtjjalagmlbaafaaI3
import Derived.Test.YtjjalagmlbaafaaL2
namespace Go.Proofs.Ytjjalagmlbaafaa.K
theorem sort_filter (l : List ByteArray) : sort (l.filter (fun x => keyB x)) = sort l := by
  refine sort_is (sort_asc _) fun x => ?_
  rw [mem_sort, List.mem_filter]
  exact ⟨fun h => h.1, fun h => ⟨h, h.2⟩⟩
theorem filter_take {l : List ByteArray} {k : Nat} (h : k < l.length) : (l.take (k + 1)).filter (fun x => keyB x) = (l.take k).filter (fun x => keyB x) ++ (if keyB l[k] = true then [l[k]] else []) := by
  rw [List.take_add_one, List.getElem?_eq_getElem h, List.filter_append]
  congr 1
  by_cases hk : keyB l[k] = true
  · rw [if_pos hk]; simp [hk]
  · rw [if_neg hk]; simp [hk]
theorem filter_len (l : List ByteArray) (k : Nat) : ((l.take k).filter (fun x => keyB x)).length ≤ l.length :=
  Nat.le_trans (List.length_filter_le _ _) (by rw [List.length_take]; omega)
end Go.Proofs.Ytjjalagmlbaafaa.K
namespace Go.Proofs.Ytjjalagmlbaafaa.W
open Go.RowKit K

set_option maxHeartbeats 1000000 in
theorem onceI (w : World) (B n c : Nat) (A : Option Addr) (l : List ByteArray) (hr : Strs w B A n l) (hB : B ≤ w.heap.size) (hn : n ≤ 100000000000) (hk : ∀ x ∈ l, keyB x = true) :
    Calls Try.prog 75 #[.slice A n c, .func (.func 76) #[] #[]] w (New w (sort l)) := by
  have hlen := hr.len
  subst hlen
  have HR := Lib.hid hr
  have HK := Lib.hid hk
  clear hr hk
  go_enter Try.func75, Try.ntmps75
  go_wp2
  go_loopw [5, 12] (fun out i wr => ∃ k : Nat, k ≤ l.length ∧ i = .int .i64 (k : Nat) ∧ Own wr w.heap.size out (sort (l.take k)) ∧ Below w.heap.size w wr) (fun _ i _ => l.length - (intOf i).toNat)
  case atStart => exact ⟨0, Nat.zero_le _, rfl, Own.none_ w _, Below.refl _ _⟩
  case round =>
    obtain ⟨k, hk, rfl, ho, hb⟩ := hrel
    have HO := Lib.hid ho
    have HB := Lib.hid hb
    have hsz := hb.size
    clear ho hb
    by_cases hlt : k < l.length
    · obtain ⟨b, off, hA, hbB, hc⟩ := (HR.out.below HB.out hB).cell k hlt
      subst hA
      have HKK := Lib.hid (HK.out _ (List.getElem_mem hlt))
      obtain ⟨A1, c1, hv, hc1, hm1, hs1⟩ := HO.out.parts
      subst hv
      have hl1 := sort_len (l.take k)
      rw [List.length_take] at hl1
      go_wp2_with fail
      go_at_call 91
      refine (searchF wr wr.heap.size _ _ _ _ _ hs1 (by omega) (sort_asc _)).mono ?_
      rintro e w2 ⟨p, hp, hat, rfl, rfl⟩
      have HT := Lib.hid hat
      clear hat hs1 hc1 hm1
      rcases Bool.eq_false_or_eq_true (inL (sort (l.take k)) l[k]) with hin | hin
      · have HI := Lib.hid hin
        go_wp2
        go_roundw
        case rel => exact ⟨k + 1, by omega, by go_num, by rw [take_get hlt, sort_snoc, if_pos HKK.out, put_there HI.out]; exact HO.out, HB.out⟩
        case measure => simp [intOf]; omega
      · have HI := Lib.hid hin
        go_wp2_with fail
        go_at_call 92
        refine (insertI wr w.heap.size _ _ l[k] p HO.out hsz (by omega) hp).mono ?_
        rintro e w2 ⟨v2, rfl, ho2, hb2⟩
        have HO2 := Lib.hid ho2
        have HB2 := Lib.hid (HB.out.trans hb2)
        clear ho2 hb2
        go_wp2
        go_roundw
        case rel => exact ⟨k + 1, by omega, by go_num, by rw [take_get hlt, sort_snoc, if_pos HKK.out, put_at HT.out HI.out]; exact HO2.out, HB2.out⟩
        case measure => simp [intOf]; omega
    · have hke : k = l.length := by omega
      subst hke
      rw [List.take_of_length_le (Nat.le_refl _)] at HO
      go_wp2
      go_ret
      exact ⟨_, rfl, HO.out, HB.out⟩

set_option maxHeartbeats 1000000 in
theorem sortI (w : World) (B n c : Nat) (A : Option Addr) (l : List ByteArray) (hr : Strs w B A n l) (hB : B ≤ w.heap.size) (hn : n ≤ 100000000000) (hf : Fit l) :
    Calls Try.prog 39 #[.slice A n c] w (New w (sort l)) := by
  have hlen := hr.len
  subst hlen
  have HR := Lib.hid hr
  have HF := Lib.hid hf
  clear hr hf
  go_enter Try.func39, Try.ntmps39
  go_wp2
  go_loopw [3, 8] (fun out i wr => ∃ k : Nat, k ≤ l.length ∧ i = .int .i64 (k : Nat) ∧ Own wr w.heap.size out ((l.take k).filter (fun x => keyB x)) ∧ Below w.heap.size w wr) (fun _ i _ => l.length - (intOf i).toNat)
  case atStart => exact ⟨0, Nat.zero_le _, rfl, Own.none_ w _, Below.refl _ _⟩
  case round =>
    obtain ⟨k, hk, rfl, ho, hb⟩ := hrel
    have HO := Lib.hid ho
    have HB := Lib.hid hb
    have hsz := hb.size
    clear ho hb
    by_cases hlt : k < l.length
    · obtain ⟨b, off, hA, hbB, hc⟩ := (HR.out.below HB.out hB).cell k hlt
      subst hA
      have hfit := HF.out.get hlt
      have hfl := filter_len l k
      rcases Bool.eq_false_or_eq_true (keyB l[k]) with hkb | hkb
      · have HK := Lib.hid hkb
        go_wp2_with (first
          | (go_at_call 74; refine (keyI _ _ hfit).mono ?_; rintro e w' ⟨rfl, rfl⟩)
          | (at_builtin; refine app_str rfl (.tmp 14) (.tmp 16) rfl _ w.heap.size _ ((l.take k).filter (fun x => keyB x)) rfl (HO.out.alloc _) wr.heap.size 1 _ rfl (cell_new _ _ _) (by omega) (le_alloc hsz _) ?_; intro g cap w1 ho1 hg1))
        have HO1 := Lib.hid ho1
        have HB1 := Lib.hid (Below.app (HB.out.alloc hsz _) (HO.out.alloc _) (Nat.le_refl _) hg1 (le_alloc hsz _))
        clear ho1 hg1
        go_wp2
        go_roundw
        case rel => exact ⟨k + 1, by omega, by go_num, by rw [filter_take hlt, if_pos HK.out]; exact HO1.out, HB1.out⟩
        case measure => simp [intOf]; omega
      · have HK := Lib.hid hkb
        go_wp2_with (go_at_call 74; refine (keyI _ _ hfit).mono ?_; rintro e w' ⟨rfl, rfl⟩)
        go_roundw
        case rel => exact ⟨k + 1, by omega, by go_num, by rw [filter_take hlt, if_neg (by rw [HK.out]; simp), List.append_nil]; exact HO.out, HB.out⟩
        case measure => simp [intOf]; omega
    · have hke : k = l.length := by omega
      subst hke
      have hfl := filter_len l l.length
      rw [List.take_of_length_le (Nat.le_refl _)] at HO hfl
      obtain ⟨A1, c1, hv, hc1, hm1, hs1⟩ := HO.out.parts
      subst hv
      go_wp2_with fail
      go_at_call 75
      refine (onceI wr wr.heap.size _ _ _ _ hs1 (Nat.le_refl _) (by omega) (fun x hx => (List.mem_filter.mp hx).2)).mono ?_
      rintro e w2 ⟨v2, rfl, ho2, hb2⟩
      have HO2 := Lib.hid (ho2.base hsz)
      have HB2 := Lib.hid (HB.out.trans (hb2.mono hsz))
      clear ho2 hb2 hs1 hc1 hm1
      go_wp2
      go_ret
      exact ⟨_, rfl, by rw [← sort_filter]; exact HO2.out, HB2.out⟩

theorem same_eq {w w' : World} (h : w = w') : Same w w' := by subst h; exact Same.refl _
end Go.Proofs.Ytjjalagmlbaafaa.W
