/-
  Laws of filters that are drawn, as walks over the contracts: a filter of nothing, and of one key.
-/
import Derived.Test.YtakadkhgcjndmaaY3
import Derived.Test.YtakadkhgcjndmaaDS6
import Derived.Test.YtakadkhgcjndmaaLE1
import Derived.Test.YtakadkhgcjndmaaLSMeetsHas
namespace Go.Proofs.Ytakadkhgcjndmaa.W
open Go.RowKit K

theorem one_size (x : T.Str) : T.sz 6 (T.rootF [x]) = 1 := by
  have hg : T.group x [] 0 = [x] := by unfold T.group; simp
  have hb : T.brs 0 [x] = [(T.letter x 0, [x])] := by rw [T.brs_cons, hg]; simp [T.brs_nil]
  show (List.map _ (T.brs 0 [x])).sum = 1
  rw [hb]
  rfl
section
variable {L M_ F : ByteArray} {R : List ByteArray} {keep : Int} {kp : Nat}
theorem made_none (h : Made L M_ F R keep [] kp) : hsOf L M_ F R kp = [] := List.eq_nil_of_length_eq_zero (by have := h.hlen; simpa using this)
theorem none_has (h : Made L M_ F R keep [] kp) (k : ByteArray) : hasO L M_ F R keep k = false := by
  rw [← Bool.not_eq_true]
  intro hk
  obtain ⟨x, hx, -⟩ := h.has_beg hk
  rw [made_none h] at hx
  cases hx
theorem none_meets (h : Made L M_ F R keep [] kp) (f t : ByteArray) (hf : keyB f = true) : meetO L M_ F R keep f t = false := by
  have hn : seekO L M_ F R keep f = none := by
    cases hs : seekO L M_ F R keep f with
    | none => rfl
    | some x =>
      have hx := inL_iff.mp (h.seek_facts hf hs).1
      rw [made_none h] at hx
      cases hx
  unfold meetO
  rw [hn]
  simp [atMost]
theorem none_size (h : Made L M_ F R keep [] kp) : sizeO L M_ F R keep = 0 := by
  have h1 := h.size_high
  rw [made_none h] at h1
  unfold sizeO
  rw [if_pos h.sv]
  simp at h1
  rw [h1]; rfl
theorem lone_size {a : ByteArray} (h : Made L M_ F R keep [a] kp) : sizeO L M_ F R keep = 1 := by
  unfold sizeO
  rw [if_pos h.sv, h.size_, T.size_is h.kl]
  show ((T.sz 6 (T.rootF [a.toList]) : Nat) : Int) = 1
  rw [one_size]; rfl
theorem keys_one {a : ByteArray} (h : keyB a = true) : keysB [a] = true := keys_iff.mpr ⟨by simp, fun k hk => by rw [List.mem_singleton.mp hk]; exact h, by unfold asc; exact List.pairwise_singleton _ _⟩
end

set_option maxHeartbeats 8000000 in
set_option maxRecDepth 100000 in
theorem lawSieveEmpty (w : World) (A : Option Addr) (n c : Nat) (hb0 : Bytes w w.heap.size A n) (hnc : n ≤ c) (hc : c ≤ maxLen) :
    Calls Try.prog 18 #[.slice A n c] w fun e w' => e = .returned (.bool true) ∧ Below w.heap.size w w' := by
  by_cases hbig : (1048576 : Int) < (n : Int)
  · clear hb0
    go_enter Try.func18, Try.ntmps18
    go_wp2
    go_ret
    exact ⟨rfl, Below.refl _ _⟩
  · go_enter Try.func18, Try.ntmps18
    go_wp2_with fail
    go_at_call 43
    refine (drawHas w A n c hb0 hnc hc).mono ?_
    rintro e w1 ⟨L, M_, F, R, keep, A2, c2, a, rfl, hka, hfm⟩
    have HFM := Lib.hid hfm
    have HB1 := Lib.hid hfm.below
    have HKA := Lib.hid (show keyB a = true from hka)
    have hasz : a.size ≤ maxLen := by have := isK_size hka; unfold maxLen; omega
    clear hb0 hfm hka
    obtain ⟨s1, hc1, hm1⟩ := HFM.out.own.strs
    obtain ⟨W1, hW1⟩ : ∃ W1, W1 = w1.alloc (.cells #[.string L, .string M_, .string F, .slice A2 R.length c2, .int .i64 keep] 27) := ⟨_, rfl⟩
    have hbw : Below w1.heap.size w1 W1 := by rw [hW1]; exact (Below.refl _ _).alloc (Nat.le_refl _) _
    have HFL := Lib.hid (show Flt W1 L M_ F A2 R.length c2 R from ⟨by have := HFM.out.szL; unfold maxLen; omega, by have := HFM.out.szM; unfold maxLen; omega, by have := HFM.out.szF; unfold maxLen; omega, (s1.below hbw (Nat.le_refl _)).more hbw.size, hc1, hm1, fun i h => by have := HFM.out.szS _ (List.getElem_mem h); omega⟩)
    have HY1 := Lib.hid (show W1.heap[w1.heap.size]? = some (.cells #[.string L, .string M_, .string F, .slice A2 R.length c2, .int .i64 keep] 27 (0, 0)) by rw [hW1]; exact heap_alloc_new _ _)
    have HBX := Lib.hid (show ∀ W, Below W1.heap.size W1 W → W.heap[w1.heap.size]? = some (.cells #[.string L, .string M_, .string F, .slice A2 R.length c2, .int .i64 keep] 27 (0, 0)) from fun W hW => box_below HY1.out hW)
    have HB2 := Lib.hid (HB1.out.trans (hbw.mono HB1.out.size))
    have HW1 := Lib.hid hW1
    clear s1 hbw hW1
    go_upto_region 4 with fail
    rw [← HW1.out]
    have s0 : W1.cell? ⟨w1.heap.size, 0, none⟩ = some (.string L) := by rw [cell_of_row _ _ _ _ _ _ HY1.out]; rfl
    have s1 : W1.cell? ⟨w1.heap.size, 1, none⟩ = some (.string M_) := by rw [cell_of_row _ _ _ _ _ _ HY1.out]; rfl
    have s2 : W1.cell? ⟨w1.heap.size, 2, none⟩ = some (.string F) := by rw [cell_of_row _ _ _ _ _ _ HY1.out]; rfl
    have s3 : W1.cell? ⟨w1.heap.size, 3, none⟩ = some (.slice A2 R.length c2) := by rw [cell_of_row _ _ _ _ _ _ HY1.out]; rfl
    have s4 : W1.cell? ⟨w1.heap.size, 4, none⟩ = some (.int .i64 keep) := by rw [cell_of_row _ _ _ _ _ _ HY1.out]; rfl
    obtain ⟨z, hz⟩ : ∃ z, hasO L M_ F R keep a = z := ⟨_, rfl⟩
    have HHS := Lib.hid (show From W1 44 #[.agg #[.string L, .string M_, .string F, .slice A2 R.length c2, .int .i64 keep], .string a] (.bool z) by have h := HFL.out.hasS keep a hasz; rw [hz] at h; exact h)
    have HHI := Lib.hid (show From W1 32 #[.agg #[.string L, .string M_, .string F, .slice A2 R.length c2, .int .i64 keep], .string a] (.bool z) by have h := HFL.out.has keep a hasz; rw [hz] at h; exact h)
    clear hz
    have hya : svYes [] 1 = true := rfl
    obtain ⟨ka, e1a, e2a, e3a⟩ := made_of hya
    have hka : ka = 1 := by omega
    subst hka
    have hsma := sv_small [] 1
    obtain ⟨La, hLa⟩ : ∃ x, x = svL [] 1 := ⟨_, rfl⟩
    obtain ⟨Ma, hMa⟩ : ∃ x, x = svM [] 1 := ⟨_, rfl⟩
    obtain ⟨Fa, hFa⟩ : ∃ x, x = svF [] 1 := ⟨_, rfl⟩
    obtain ⟨Ra, hRa⟩ : ∃ x, x = svR [] 1 := ⟨_, rfl⟩
    rw [← hLa, ← hMa, ← hFa, ← hRa] at e3a
    rw [← hLa, ← hMa, ← hFa, ← hRa] at hsma
    have HSa := Lib.hid hsma
    have HMa := Lib.hid (show Made La Ma Fa Ra 1 [] 1 from e3a)
    have HO1 := Lib.hid (show ∀ W : World, Calls Try.prog 30 #[.slice none 0 0, .int .i64 1] W (OfF W La Ma Fa Ra 1 true) from fun W => (ofI W 0 0 none [] 1 ⟨rfl, fun i hi => absurd hi (Nat.not_lt_zero _)⟩ (Nat.le_refl _) (Nat.zero_le _) (fun s hs => by cases hs)).mono fun _ _ h => by have h' := of_fields h; rw [hya, e2a, ← hLa, ← hMa, ← hFa, ← hRa] at h'; exact h')
    clear hLa hMa hFa hRa e1a e2a e3a hsma hya
    have hyb : svYes [a] 0 = true := by unfold svYes inB; rw [keys_one HKA.out]; rfl
    obtain ⟨kb, e1b, e2b, e3b⟩ := made_of hyb
    have hkb : kb = 0 := by omega
    subst hkb
    have hsmb := sv_small [a] 0
    obtain ⟨Lb, hLb⟩ : ∃ x, x = svL [a] 0 := ⟨_, rfl⟩
    obtain ⟨Mb, hMb⟩ : ∃ x, x = svM [a] 0 := ⟨_, rfl⟩
    obtain ⟨Fb, hFb⟩ : ∃ x, x = svF [a] 0 := ⟨_, rfl⟩
    obtain ⟨Rb, hRb⟩ : ∃ x, x = svR [a] 0 := ⟨_, rfl⟩
    rw [← hLb, ← hMb, ← hFb, ← hRb] at e3b
    rw [← hLb, ← hMb, ← hFb, ← hRb] at hsmb
    have HSb := Lib.hid hsmb
    have HMb := Lib.hid (show Made Lb Mb Fb Rb 0 [a] 0 from e3b)
    have HO2 := Lib.hid (show ∀ (W : World) (A : Option Addr), Strs W W.heap.size A 1 [a] → Calls Try.prog 30 #[.slice A 1 1, .int .i64 0] W (OfF W Lb Mb Fb Rb 0 true) from fun W A h1 => (ofI W 1 1 A [a] 0 h1 (Nat.le_refl _) (by unfold maxLen; omega) (fun s hs => by rw [List.mem_singleton.mp hs]; exact hasz)).mono fun _ _ h => by have h' := of_fields h; rw [hyb, e2b, ← hLb, ← hMb, ← hFb, ← hRb] at h'; exact h')
    clear hLb hMb hFb hRb e1b e2b e3b hsmb hyb
    cases z with
    | true =>
      go_wp2_with (first | (go_at_call 32; refine Calls.mono (From.go HHI.out (by first | exact Below.refl _ _ | exact HB5.out)) ?_; rintro e w5 ⟨rfl, hb5⟩; (try clear s50 s51 s52 s53 s54); have HB5 := Lib.hid hb5; have s50 : w5.cell? ⟨w1.heap.size, 0, none⟩ = some (.string L) := (by rw [cell_of_row _ _ _ _ _ _ (HBX.out w5 hb5)]; rfl); have s51 : w5.cell? ⟨w1.heap.size, 1, none⟩ = some (.string M_) := (by rw [cell_of_row _ _ _ _ _ _ (HBX.out w5 hb5)]; rfl); have s52 : w5.cell? ⟨w1.heap.size, 2, none⟩ = some (.string F) := (by rw [cell_of_row _ _ _ _ _ _ (HBX.out w5 hb5)]; rfl); have s53 : w5.cell? ⟨w1.heap.size, 3, none⟩ = some (.slice A2 R.length c2) := (by rw [cell_of_row _ _ _ _ _ _ (HBX.out w5 hb5)]; rfl); have s54 : w5.cell? ⟨w1.heap.size, 4, none⟩ = some (.int .i64 keep) := (by rw [cell_of_row _ _ _ _ _ _ (HBX.out w5 hb5)]; rfl); clear hb5) | (go_at_call 44; refine Calls.mono (From.go HHS.out (by first | exact Below.refl _ _ | exact HB5.out)) ?_; rintro e w5 ⟨rfl, hb5⟩; (try clear s50 s51 s52 s53 s54); have HB5 := Lib.hid hb5; have s50 : w5.cell? ⟨w1.heap.size, 0, none⟩ = some (.string L) := (by rw [cell_of_row _ _ _ _ _ _ (HBX.out w5 hb5)]; rfl); have s51 : w5.cell? ⟨w1.heap.size, 1, none⟩ = some (.string M_) := (by rw [cell_of_row _ _ _ _ _ _ (HBX.out w5 hb5)]; rfl); have s52 : w5.cell? ⟨w1.heap.size, 2, none⟩ = some (.string F) := (by rw [cell_of_row _ _ _ _ _ _ (HBX.out w5 hb5)]; rfl); have s53 : w5.cell? ⟨w1.heap.size, 3, none⟩ = some (.slice A2 R.length c2) := (by rw [cell_of_row _ _ _ _ _ _ (HBX.out w5 hb5)]; rfl); have s54 : w5.cell? ⟨w1.heap.size, 4, none⟩ = some (.int .i64 keep) := (by rw [cell_of_row _ _ _ _ _ _ (HBX.out w5 hb5)]; rfl); clear hb5) | (go_at_call 30; fail))
      go_at_call 30
      refine Calls.mono (HO1.out w5) ?_
      rintro e w6 ⟨A6, c6, rfl, ho6, hb6⟩
      obtain ⟨W6, hW6⟩ : ∃ W6, W6 = w6.alloc (.cells #[.string La, .string Ma, .string Fa, .slice A6 Ra.length c6, .int .i64 1] 27) := ⟨_, rfl⟩
      have hbw : Below w6.heap.size w6 W6 := by rw [hW6]; exact (Below.refl _ _).alloc (Nat.le_refl _) _
      have HY6 := Lib.hid (show W6.heap[w6.heap.size]? = some (.cells #[.string La, .string Ma, .string Fa, .slice A6 Ra.length c6, .int .i64 1] 27 (0, 0)) by rw [hW6]; exact heap_alloc_new _ _)
      obtain ⟨s6, hc6, hm6⟩ := (ho6.below hbw).strs
      have hb16 := HB5.out.trans (hb6.mono HB5.out.size)
      have hb17 := hb16.trans (hbw.mono hb16.size)
      have HFA := Lib.hid (show Flt W6 La Ma Fa A6 Ra.length c6 Ra from ⟨by have := HSa.out.1; unfold maxLen; omega, by have := HSa.out.2.1; unfold maxLen; omega, by have := HSa.out.2.2.1; unfold maxLen; omega, s6, hc6, hm6, fun i h => by have := HSa.out.2.2.2.1 _ (List.getElem_mem h); omega⟩)
      have HB6 := Lib.hid (HB2.out.trans (hb17.mono HB2.out.size))
      have HW6 := Lib.hid hW6
      obtain ⟨W8, hW8⟩ : ∃ W8, W8 = W6.alloc (.cells #[.string a] 9) := ⟨_, rfl⟩
      have hs8 : W8.heap.size = W6.heap.size + 1 := by rw [hW8]; simp
      have HI2 := Lib.hid (HO2.out W8 (some ⟨W6.heap.size, 0, none⟩) (by rw [hs8, hW8]; exact one_strs W6 a))
      have hb68 : Below W6.heap.size W6 W8 := by rw [hW8]; exact (Below.refl _ _).alloc (Nat.le_refl _) _
      rw [hW8] at HI2
      have HW8 := Lib.hid hW8
      have HB68 := Lib.hid hb68
      clear ho6 hb6 hbw hW6 s6 hb16 hb17 hW8 hb68
      go_upto_region 8 with fail
      rw [← HW6.out]
      go_wp2_with fail
      go_at_call 30
      refine HI2.out.mono ?_
      rw [← HW8.out]
      rintro e w7 ⟨A7, c7, rfl, ho7, hb7⟩
      obtain ⟨W7, hW7⟩ : ∃ W7, W7 = w7.alloc (.cells #[.string Lb, .string Mb, .string Fb, .slice A7 Rb.length c7, .int .i64 0] 27) := ⟨_, rfl⟩
      have hbw : Below w7.heap.size w7 W7 := by rw [hW7]; exact (Below.refl _ _).alloc (Nat.le_refl _) _
      have HY7 := Lib.hid (show W7.heap[w7.heap.size]? = some (.cells #[.string Lb, .string Mb, .string Fb, .slice A7 Rb.length c7, .int .i64 0] 27 (0, 0)) by rw [hW7]; exact heap_alloc_new _ _)
      obtain ⟨s7, hc7, hm7⟩ := (ho7.below hbw).strs
      have hb67 := HB68.out.trans (hb7.mono HB68.out.size)
      have hb6W := hb67.trans (hbw.mono hb67.size)
      have HFB := Lib.hid (show Flt W7 Lb Mb Fb A7 Rb.length c7 Rb from ⟨by have := HSb.out.1; unfold maxLen; omega, by have := HSb.out.2.1; unfold maxLen; omega, by have := HSb.out.2.2.1; unfold maxLen; omega, s7, hc7, hm7, fun i h => by have := HSb.out.2.2.2.1 _ (List.getElem_mem h); omega⟩)
      have HFC := Lib.hid (HFA.out.up hb6W)
      have HBY := Lib.hid (show ∀ W, Below W7.heap.size W7 W → W.heap[w6.heap.size]? = some (.cells #[.string La, .string Ma, .string Fa, .slice A6 Ra.length c6, .int .i64 1] 27 (0, 0)) ∧ W.heap[w7.heap.size]? = some (.cells #[.string Lb, .string Mb, .string Fb, .slice A7 Rb.length c7, .int .i64 0] 27 (0, 0)) from fun W hW => ⟨box_below HY6.out (hb6W.trans (hW.mono hb6W.size)), box_below HY7.out hW⟩)
      have HB7 := Lib.hid (HB6.out.trans (hb6W.mono HB6.out.size))
      have HW7 := Lib.hid hW7
      have HHX := Lib.hid (show ∀ (v : Value) (x : Bool), (v = .agg #[.string La, .string Ma, .string Fa, .slice A6 Ra.length c6, .int .i64 1] ∧ x = false ∨ v = .agg #[.string Lb, .string Mb, .string Fb, .slice A7 Rb.length c7, .int .i64 0] ∧ x = true) → From W7 32 #[v, .string a] (.bool x) from fun v x hv => by
        rcases hv with ⟨rfl, rfl⟩ | ⟨rfl, rfl⟩
        · have h := HFC.out.has 1 a hasz; rw [none_has HMa.out] at h; exact h
        · have h := HFB.out.has 0 a hasz; rw [HMb.out.never (List.mem_singleton.mpr rfl)] at h; exact h)
      have HZX := Lib.hid (show ∀ (v : Value) (x : Int), (v = .agg #[.string La, .string Ma, .string Fa, .slice A6 Ra.length c6, .int .i64 1] ∧ x = 0 ∨ v = .agg #[.string Lb, .string Mb, .string Fb, .slice A7 Rb.length c7, .int .i64 0] ∧ x = 1) → From W7 47 #[v] (.int .i64 x) from fun v x hv => by
        rcases hv with ⟨rfl, rfl⟩ | ⟨rfl, rfl⟩
        · have h := HFC.out.size 1; rw [none_size HMa.out] at h; exact h
        · have h := HFB.out.size 0; rw [lone_size HMb.out] at h; exact h)
      have HMT := Lib.hid (show From W7 33 #[.agg #[.string La, .string Ma, .string Fa, .slice A6 Ra.length c6, .int .i64 1], .string ⟨#[]⟩, .string top5] (.bool false) by have h := HFC.out.meets 1 ⟨#[]⟩ top5 (by unfold maxLen; decide) (by unfold maxLen; decide); rw [none_meets HMa.out _ _ isK_nil] at h; exact h)
      clear ho7 hb7 hbw hW7 s7 hb67 hb6W
      go_upto_region 9 with fail
      rw [← HW7.out]
      have u0 : W7.cell? ⟨w6.heap.size, 0, none⟩ = some (.string La) := by rw [cell_of_row _ _ _ _ _ _ (HBY.out W7 (Below.refl _ _)).1]; rfl
      have u1 : W7.cell? ⟨w6.heap.size, 1, none⟩ = some (.string Ma) := by rw [cell_of_row _ _ _ _ _ _ (HBY.out W7 (Below.refl _ _)).1]; rfl
      have u2 : W7.cell? ⟨w6.heap.size, 2, none⟩ = some (.string Fa) := by rw [cell_of_row _ _ _ _ _ _ (HBY.out W7 (Below.refl _ _)).1]; rfl
      have u3 : W7.cell? ⟨w6.heap.size, 3, none⟩ = some (.slice A6 Ra.length c6) := by rw [cell_of_row _ _ _ _ _ _ (HBY.out W7 (Below.refl _ _)).1]; rfl
      have u4 : W7.cell? ⟨w6.heap.size, 4, none⟩ = some (.int .i64 1) := by rw [cell_of_row _ _ _ _ _ _ (HBY.out W7 (Below.refl _ _)).1]; rfl
      have v0 : W7.cell? ⟨w7.heap.size, 0, none⟩ = some (.string Lb) := by rw [cell_of_row _ _ _ _ _ _ (HBY.out W7 (Below.refl _ _)).2]; rfl
      have v1 : W7.cell? ⟨w7.heap.size, 1, none⟩ = some (.string Mb) := by rw [cell_of_row _ _ _ _ _ _ (HBY.out W7 (Below.refl _ _)).2]; rfl
      have v2 : W7.cell? ⟨w7.heap.size, 2, none⟩ = some (.string Fb) := by rw [cell_of_row _ _ _ _ _ _ (HBY.out W7 (Below.refl _ _)).2]; rfl
      have v3 : W7.cell? ⟨w7.heap.size, 3, none⟩ = some (.slice A7 Rb.length c7) := by rw [cell_of_row _ _ _ _ _ _ (HBY.out W7 (Below.refl _ _)).2]; rfl
      have v4 : W7.cell? ⟨w7.heap.size, 4, none⟩ = some (.int .i64 0) := by rw [cell_of_row _ _ _ _ _ _ (HBY.out W7 (Below.refl _ _)).2]; rfl
      go_wp2_with (first | (go_at_call 32; refine Calls.mono (From.go (HHX.out _ _ (by first | exact .inl ⟨rfl, rfl⟩ | exact .inr ⟨rfl, rfl⟩)) (by first | exact Below.refl _ _ | exact HB8.out)) ?_; rintro e w8 ⟨rfl, hb8⟩; have HB8 := Lib.hid hb8; have u80 : w8.cell? ⟨w6.heap.size, 0, none⟩ = some (.string La) := (by rw [cell_of_row _ _ _ _ _ _ (HBY.out w8 hb8).1]; rfl); have u81 : w8.cell? ⟨w6.heap.size, 1, none⟩ = some (.string Ma) := (by rw [cell_of_row _ _ _ _ _ _ (HBY.out w8 hb8).1]; rfl); have u82 : w8.cell? ⟨w6.heap.size, 2, none⟩ = some (.string Fa) := (by rw [cell_of_row _ _ _ _ _ _ (HBY.out w8 hb8).1]; rfl); have u83 : w8.cell? ⟨w6.heap.size, 3, none⟩ = some (.slice A6 Ra.length c6) := (by rw [cell_of_row _ _ _ _ _ _ (HBY.out w8 hb8).1]; rfl); have u84 : w8.cell? ⟨w6.heap.size, 4, none⟩ = some (.int .i64 1) := (by rw [cell_of_row _ _ _ _ _ _ (HBY.out w8 hb8).1]; rfl); have v80 : w8.cell? ⟨w7.heap.size, 0, none⟩ = some (.string Lb) := (by rw [cell_of_row _ _ _ _ _ _ (HBY.out w8 hb8).2]; rfl); have v81 : w8.cell? ⟨w7.heap.size, 1, none⟩ = some (.string Mb) := (by rw [cell_of_row _ _ _ _ _ _ (HBY.out w8 hb8).2]; rfl); have v82 : w8.cell? ⟨w7.heap.size, 2, none⟩ = some (.string Fb) := (by rw [cell_of_row _ _ _ _ _ _ (HBY.out w8 hb8).2]; rfl); have v83 : w8.cell? ⟨w7.heap.size, 3, none⟩ = some (.slice A7 Rb.length c7) := (by rw [cell_of_row _ _ _ _ _ _ (HBY.out w8 hb8).2]; rfl); have v84 : w8.cell? ⟨w7.heap.size, 4, none⟩ = some (.int .i64 0) := (by rw [cell_of_row _ _ _ _ _ _ (HBY.out w8 hb8).2]; rfl); clear hb8) | (go_at_call 47; refine Calls.mono (From.go (HZX.out _ _ (by first | exact .inl ⟨rfl, rfl⟩ | exact .inr ⟨rfl, rfl⟩)) (by first | exact Below.refl _ _ | exact HB8.out)) ?_; rintro e w8 ⟨rfl, hb8⟩; have HB8 := Lib.hid hb8; have u80 : w8.cell? ⟨w6.heap.size, 0, none⟩ = some (.string La) := (by rw [cell_of_row _ _ _ _ _ _ (HBY.out w8 hb8).1]; rfl); have u81 : w8.cell? ⟨w6.heap.size, 1, none⟩ = some (.string Ma) := (by rw [cell_of_row _ _ _ _ _ _ (HBY.out w8 hb8).1]; rfl); have u82 : w8.cell? ⟨w6.heap.size, 2, none⟩ = some (.string Fa) := (by rw [cell_of_row _ _ _ _ _ _ (HBY.out w8 hb8).1]; rfl); have u83 : w8.cell? ⟨w6.heap.size, 3, none⟩ = some (.slice A6 Ra.length c6) := (by rw [cell_of_row _ _ _ _ _ _ (HBY.out w8 hb8).1]; rfl); have u84 : w8.cell? ⟨w6.heap.size, 4, none⟩ = some (.int .i64 1) := (by rw [cell_of_row _ _ _ _ _ _ (HBY.out w8 hb8).1]; rfl); have v80 : w8.cell? ⟨w7.heap.size, 0, none⟩ = some (.string Lb) := (by rw [cell_of_row _ _ _ _ _ _ (HBY.out w8 hb8).2]; rfl); have v81 : w8.cell? ⟨w7.heap.size, 1, none⟩ = some (.string Mb) := (by rw [cell_of_row _ _ _ _ _ _ (HBY.out w8 hb8).2]; rfl); have v82 : w8.cell? ⟨w7.heap.size, 2, none⟩ = some (.string Fb) := (by rw [cell_of_row _ _ _ _ _ _ (HBY.out w8 hb8).2]; rfl); have v83 : w8.cell? ⟨w7.heap.size, 3, none⟩ = some (.slice A7 Rb.length c7) := (by rw [cell_of_row _ _ _ _ _ _ (HBY.out w8 hb8).2]; rfl); have v84 : w8.cell? ⟨w7.heap.size, 4, none⟩ = some (.int .i64 0) := (by rw [cell_of_row _ _ _ _ _ _ (HBY.out w8 hb8).2]; rfl); clear hb8) | (go_at_call 33; refine Calls.mono (From.go HMT.out (by first | exact Below.refl _ _ | exact HB8.out)) ?_; rintro e w8 ⟨rfl, hb8⟩; have HB8 := Lib.hid hb8; have u80 : w8.cell? ⟨w6.heap.size, 0, none⟩ = some (.string La) := (by rw [cell_of_row _ _ _ _ _ _ (HBY.out w8 hb8).1]; rfl); have u81 : w8.cell? ⟨w6.heap.size, 1, none⟩ = some (.string Ma) := (by rw [cell_of_row _ _ _ _ _ _ (HBY.out w8 hb8).1]; rfl); have u82 : w8.cell? ⟨w6.heap.size, 2, none⟩ = some (.string Fa) := (by rw [cell_of_row _ _ _ _ _ _ (HBY.out w8 hb8).1]; rfl); have u83 : w8.cell? ⟨w6.heap.size, 3, none⟩ = some (.slice A6 Ra.length c6) := (by rw [cell_of_row _ _ _ _ _ _ (HBY.out w8 hb8).1]; rfl); have u84 : w8.cell? ⟨w6.heap.size, 4, none⟩ = some (.int .i64 1) := (by rw [cell_of_row _ _ _ _ _ _ (HBY.out w8 hb8).1]; rfl); have v80 : w8.cell? ⟨w7.heap.size, 0, none⟩ = some (.string Lb) := (by rw [cell_of_row _ _ _ _ _ _ (HBY.out w8 hb8).2]; rfl); have v81 : w8.cell? ⟨w7.heap.size, 1, none⟩ = some (.string Mb) := (by rw [cell_of_row _ _ _ _ _ _ (HBY.out w8 hb8).2]; rfl); have v82 : w8.cell? ⟨w7.heap.size, 2, none⟩ = some (.string Fb) := (by rw [cell_of_row _ _ _ _ _ _ (HBY.out w8 hb8).2]; rfl); have v83 : w8.cell? ⟨w7.heap.size, 3, none⟩ = some (.slice A7 Rb.length c7) := (by rw [cell_of_row _ _ _ _ _ _ (HBY.out w8 hb8).2]; rfl); have v84 : w8.cell? ⟨w7.heap.size, 4, none⟩ = some (.int .i64 0) := (by rw [cell_of_row _ _ _ _ _ _ (HBY.out w8 hb8).2]; rfl); clear hb8))
      go_ret
      exact ⟨rfl, HB7.out.trans (HB8.out.mono HB7.out.size)⟩
    | false =>
      go_wp2_with (first | (go_at_call 32; refine Calls.mono (From.go HHI.out (by first | exact Below.refl _ _ | exact HB5.out)) ?_; rintro e w5 ⟨rfl, hb5⟩; (try clear s50 s51 s52 s53 s54); have HB5 := Lib.hid hb5; have s50 : w5.cell? ⟨w1.heap.size, 0, none⟩ = some (.string L) := (by rw [cell_of_row _ _ _ _ _ _ (HBX.out w5 hb5)]; rfl); have s51 : w5.cell? ⟨w1.heap.size, 1, none⟩ = some (.string M_) := (by rw [cell_of_row _ _ _ _ _ _ (HBX.out w5 hb5)]; rfl); have s52 : w5.cell? ⟨w1.heap.size, 2, none⟩ = some (.string F) := (by rw [cell_of_row _ _ _ _ _ _ (HBX.out w5 hb5)]; rfl); have s53 : w5.cell? ⟨w1.heap.size, 3, none⟩ = some (.slice A2 R.length c2) := (by rw [cell_of_row _ _ _ _ _ _ (HBX.out w5 hb5)]; rfl); have s54 : w5.cell? ⟨w1.heap.size, 4, none⟩ = some (.int .i64 keep) := (by rw [cell_of_row _ _ _ _ _ _ (HBX.out w5 hb5)]; rfl); clear hb5) | (go_at_call 44; refine Calls.mono (From.go HHS.out (by first | exact Below.refl _ _ | exact HB5.out)) ?_; rintro e w5 ⟨rfl, hb5⟩; (try clear s50 s51 s52 s53 s54); have HB5 := Lib.hid hb5; have s50 : w5.cell? ⟨w1.heap.size, 0, none⟩ = some (.string L) := (by rw [cell_of_row _ _ _ _ _ _ (HBX.out w5 hb5)]; rfl); have s51 : w5.cell? ⟨w1.heap.size, 1, none⟩ = some (.string M_) := (by rw [cell_of_row _ _ _ _ _ _ (HBX.out w5 hb5)]; rfl); have s52 : w5.cell? ⟨w1.heap.size, 2, none⟩ = some (.string F) := (by rw [cell_of_row _ _ _ _ _ _ (HBX.out w5 hb5)]; rfl); have s53 : w5.cell? ⟨w1.heap.size, 3, none⟩ = some (.slice A2 R.length c2) := (by rw [cell_of_row _ _ _ _ _ _ (HBX.out w5 hb5)]; rfl); have s54 : w5.cell? ⟨w1.heap.size, 4, none⟩ = some (.int .i64 keep) := (by rw [cell_of_row _ _ _ _ _ _ (HBX.out w5 hb5)]; rfl); clear hb5) | (go_at_call 30; fail))
      go_at_call 30
      refine Calls.mono (HO1.out w5) ?_
      rintro e w6 ⟨A6, c6, rfl, ho6, hb6⟩
      obtain ⟨W6, hW6⟩ : ∃ W6, W6 = w6.alloc (.cells #[.string La, .string Ma, .string Fa, .slice A6 Ra.length c6, .int .i64 1] 27) := ⟨_, rfl⟩
      have hbw : Below w6.heap.size w6 W6 := by rw [hW6]; exact (Below.refl _ _).alloc (Nat.le_refl _) _
      have HY6 := Lib.hid (show W6.heap[w6.heap.size]? = some (.cells #[.string La, .string Ma, .string Fa, .slice A6 Ra.length c6, .int .i64 1] 27 (0, 0)) by rw [hW6]; exact heap_alloc_new _ _)
      obtain ⟨s6, hc6, hm6⟩ := (ho6.below hbw).strs
      have hb16 := HB5.out.trans (hb6.mono HB5.out.size)
      have hb17 := hb16.trans (hbw.mono hb16.size)
      have HFA := Lib.hid (show Flt W6 La Ma Fa A6 Ra.length c6 Ra from ⟨by have := HSa.out.1; unfold maxLen; omega, by have := HSa.out.2.1; unfold maxLen; omega, by have := HSa.out.2.2.1; unfold maxLen; omega, s6, hc6, hm6, fun i h => by have := HSa.out.2.2.2.1 _ (List.getElem_mem h); omega⟩)
      have HB6 := Lib.hid (HB2.out.trans (hb17.mono HB2.out.size))
      have HW6 := Lib.hid hW6
      obtain ⟨W8, hW8⟩ : ∃ W8, W8 = W6.alloc (.cells #[.string a] 9) := ⟨_, rfl⟩
      have hs8 : W8.heap.size = W6.heap.size + 1 := by rw [hW8]; simp
      have HI2 := Lib.hid (HO2.out W8 (some ⟨W6.heap.size, 0, none⟩) (by rw [hs8, hW8]; exact one_strs W6 a))
      have hb68 : Below W6.heap.size W6 W8 := by rw [hW8]; exact (Below.refl _ _).alloc (Nat.le_refl _) _
      rw [hW8] at HI2
      have HW8 := Lib.hid hW8
      have HB68 := Lib.hid hb68
      clear ho6 hb6 hbw hW6 s6 hb16 hb17 hW8 hb68
      go_upto_region 8 with fail
      rw [← HW6.out]
      go_wp2_with fail
      go_at_call 30
      refine HI2.out.mono ?_
      rw [← HW8.out]
      rintro e w7 ⟨A7, c7, rfl, ho7, hb7⟩
      obtain ⟨W7, hW7⟩ : ∃ W7, W7 = w7.alloc (.cells #[.string Lb, .string Mb, .string Fb, .slice A7 Rb.length c7, .int .i64 0] 27) := ⟨_, rfl⟩
      have hbw : Below w7.heap.size w7 W7 := by rw [hW7]; exact (Below.refl _ _).alloc (Nat.le_refl _) _
      have HY7 := Lib.hid (show W7.heap[w7.heap.size]? = some (.cells #[.string Lb, .string Mb, .string Fb, .slice A7 Rb.length c7, .int .i64 0] 27 (0, 0)) by rw [hW7]; exact heap_alloc_new _ _)
      obtain ⟨s7, hc7, hm7⟩ := (ho7.below hbw).strs
      have hb67 := HB68.out.trans (hb7.mono HB68.out.size)
      have hb6W := hb67.trans (hbw.mono hb67.size)
      have HFB := Lib.hid (show Flt W7 Lb Mb Fb A7 Rb.length c7 Rb from ⟨by have := HSb.out.1; unfold maxLen; omega, by have := HSb.out.2.1; unfold maxLen; omega, by have := HSb.out.2.2.1; unfold maxLen; omega, s7, hc7, hm7, fun i h => by have := HSb.out.2.2.2.1 _ (List.getElem_mem h); omega⟩)
      have HFC := Lib.hid (HFA.out.up hb6W)
      have HBY := Lib.hid (show ∀ W, Below W7.heap.size W7 W → W.heap[w6.heap.size]? = some (.cells #[.string La, .string Ma, .string Fa, .slice A6 Ra.length c6, .int .i64 1] 27 (0, 0)) ∧ W.heap[w7.heap.size]? = some (.cells #[.string Lb, .string Mb, .string Fb, .slice A7 Rb.length c7, .int .i64 0] 27 (0, 0)) from fun W hW => ⟨box_below HY6.out (hb6W.trans (hW.mono hb6W.size)), box_below HY7.out hW⟩)
      have HB7 := Lib.hid (HB6.out.trans (hb6W.mono HB6.out.size))
      have HW7 := Lib.hid hW7
      have HHX := Lib.hid (show ∀ (v : Value) (x : Bool), (v = .agg #[.string La, .string Ma, .string Fa, .slice A6 Ra.length c6, .int .i64 1] ∧ x = false ∨ v = .agg #[.string Lb, .string Mb, .string Fb, .slice A7 Rb.length c7, .int .i64 0] ∧ x = true) → From W7 32 #[v, .string a] (.bool x) from fun v x hv => by
        rcases hv with ⟨rfl, rfl⟩ | ⟨rfl, rfl⟩
        · have h := HFC.out.has 1 a hasz; rw [none_has HMa.out] at h; exact h
        · have h := HFB.out.has 0 a hasz; rw [HMb.out.never (List.mem_singleton.mpr rfl)] at h; exact h)
      have HZX := Lib.hid (show ∀ (v : Value) (x : Int), (v = .agg #[.string La, .string Ma, .string Fa, .slice A6 Ra.length c6, .int .i64 1] ∧ x = 0 ∨ v = .agg #[.string Lb, .string Mb, .string Fb, .slice A7 Rb.length c7, .int .i64 0] ∧ x = 1) → From W7 47 #[v] (.int .i64 x) from fun v x hv => by
        rcases hv with ⟨rfl, rfl⟩ | ⟨rfl, rfl⟩
        · have h := HFC.out.size 1; rw [none_size HMa.out] at h; exact h
        · have h := HFB.out.size 0; rw [lone_size HMb.out] at h; exact h)
      have HMT := Lib.hid (show From W7 33 #[.agg #[.string La, .string Ma, .string Fa, .slice A6 Ra.length c6, .int .i64 1], .string ⟨#[]⟩, .string top5] (.bool false) by have h := HFC.out.meets 1 ⟨#[]⟩ top5 (by unfold maxLen; decide) (by unfold maxLen; decide); rw [none_meets HMa.out _ _ isK_nil] at h; exact h)
      clear ho7 hb7 hbw hW7 s7 hb67 hb6W
      go_upto_region 9 with fail
      rw [← HW7.out]
      have u0 : W7.cell? ⟨w6.heap.size, 0, none⟩ = some (.string La) := by rw [cell_of_row _ _ _ _ _ _ (HBY.out W7 (Below.refl _ _)).1]; rfl
      have u1 : W7.cell? ⟨w6.heap.size, 1, none⟩ = some (.string Ma) := by rw [cell_of_row _ _ _ _ _ _ (HBY.out W7 (Below.refl _ _)).1]; rfl
      have u2 : W7.cell? ⟨w6.heap.size, 2, none⟩ = some (.string Fa) := by rw [cell_of_row _ _ _ _ _ _ (HBY.out W7 (Below.refl _ _)).1]; rfl
      have u3 : W7.cell? ⟨w6.heap.size, 3, none⟩ = some (.slice A6 Ra.length c6) := by rw [cell_of_row _ _ _ _ _ _ (HBY.out W7 (Below.refl _ _)).1]; rfl
      have u4 : W7.cell? ⟨w6.heap.size, 4, none⟩ = some (.int .i64 1) := by rw [cell_of_row _ _ _ _ _ _ (HBY.out W7 (Below.refl _ _)).1]; rfl
      have v0 : W7.cell? ⟨w7.heap.size, 0, none⟩ = some (.string Lb) := by rw [cell_of_row _ _ _ _ _ _ (HBY.out W7 (Below.refl _ _)).2]; rfl
      have v1 : W7.cell? ⟨w7.heap.size, 1, none⟩ = some (.string Mb) := by rw [cell_of_row _ _ _ _ _ _ (HBY.out W7 (Below.refl _ _)).2]; rfl
      have v2 : W7.cell? ⟨w7.heap.size, 2, none⟩ = some (.string Fb) := by rw [cell_of_row _ _ _ _ _ _ (HBY.out W7 (Below.refl _ _)).2]; rfl
      have v3 : W7.cell? ⟨w7.heap.size, 3, none⟩ = some (.slice A7 Rb.length c7) := by rw [cell_of_row _ _ _ _ _ _ (HBY.out W7 (Below.refl _ _)).2]; rfl
      have v4 : W7.cell? ⟨w7.heap.size, 4, none⟩ = some (.int .i64 0) := by rw [cell_of_row _ _ _ _ _ _ (HBY.out W7 (Below.refl _ _)).2]; rfl
      go_wp2_with (first | (go_at_call 32; refine Calls.mono (From.go (HHX.out _ _ (by first | exact .inl ⟨rfl, rfl⟩ | exact .inr ⟨rfl, rfl⟩)) (by first | exact Below.refl _ _ | exact HB8.out)) ?_; rintro e w8 ⟨rfl, hb8⟩; have HB8 := Lib.hid hb8; have u80 : w8.cell? ⟨w6.heap.size, 0, none⟩ = some (.string La) := (by rw [cell_of_row _ _ _ _ _ _ (HBY.out w8 hb8).1]; rfl); have u81 : w8.cell? ⟨w6.heap.size, 1, none⟩ = some (.string Ma) := (by rw [cell_of_row _ _ _ _ _ _ (HBY.out w8 hb8).1]; rfl); have u82 : w8.cell? ⟨w6.heap.size, 2, none⟩ = some (.string Fa) := (by rw [cell_of_row _ _ _ _ _ _ (HBY.out w8 hb8).1]; rfl); have u83 : w8.cell? ⟨w6.heap.size, 3, none⟩ = some (.slice A6 Ra.length c6) := (by rw [cell_of_row _ _ _ _ _ _ (HBY.out w8 hb8).1]; rfl); have u84 : w8.cell? ⟨w6.heap.size, 4, none⟩ = some (.int .i64 1) := (by rw [cell_of_row _ _ _ _ _ _ (HBY.out w8 hb8).1]; rfl); have v80 : w8.cell? ⟨w7.heap.size, 0, none⟩ = some (.string Lb) := (by rw [cell_of_row _ _ _ _ _ _ (HBY.out w8 hb8).2]; rfl); have v81 : w8.cell? ⟨w7.heap.size, 1, none⟩ = some (.string Mb) := (by rw [cell_of_row _ _ _ _ _ _ (HBY.out w8 hb8).2]; rfl); have v82 : w8.cell? ⟨w7.heap.size, 2, none⟩ = some (.string Fb) := (by rw [cell_of_row _ _ _ _ _ _ (HBY.out w8 hb8).2]; rfl); have v83 : w8.cell? ⟨w7.heap.size, 3, none⟩ = some (.slice A7 Rb.length c7) := (by rw [cell_of_row _ _ _ _ _ _ (HBY.out w8 hb8).2]; rfl); have v84 : w8.cell? ⟨w7.heap.size, 4, none⟩ = some (.int .i64 0) := (by rw [cell_of_row _ _ _ _ _ _ (HBY.out w8 hb8).2]; rfl); clear hb8) | (go_at_call 47; refine Calls.mono (From.go (HZX.out _ _ (by first | exact .inl ⟨rfl, rfl⟩ | exact .inr ⟨rfl, rfl⟩)) (by first | exact Below.refl _ _ | exact HB8.out)) ?_; rintro e w8 ⟨rfl, hb8⟩; have HB8 := Lib.hid hb8; have u80 : w8.cell? ⟨w6.heap.size, 0, none⟩ = some (.string La) := (by rw [cell_of_row _ _ _ _ _ _ (HBY.out w8 hb8).1]; rfl); have u81 : w8.cell? ⟨w6.heap.size, 1, none⟩ = some (.string Ma) := (by rw [cell_of_row _ _ _ _ _ _ (HBY.out w8 hb8).1]; rfl); have u82 : w8.cell? ⟨w6.heap.size, 2, none⟩ = some (.string Fa) := (by rw [cell_of_row _ _ _ _ _ _ (HBY.out w8 hb8).1]; rfl); have u83 : w8.cell? ⟨w6.heap.size, 3, none⟩ = some (.slice A6 Ra.length c6) := (by rw [cell_of_row _ _ _ _ _ _ (HBY.out w8 hb8).1]; rfl); have u84 : w8.cell? ⟨w6.heap.size, 4, none⟩ = some (.int .i64 1) := (by rw [cell_of_row _ _ _ _ _ _ (HBY.out w8 hb8).1]; rfl); have v80 : w8.cell? ⟨w7.heap.size, 0, none⟩ = some (.string Lb) := (by rw [cell_of_row _ _ _ _ _ _ (HBY.out w8 hb8).2]; rfl); have v81 : w8.cell? ⟨w7.heap.size, 1, none⟩ = some (.string Mb) := (by rw [cell_of_row _ _ _ _ _ _ (HBY.out w8 hb8).2]; rfl); have v82 : w8.cell? ⟨w7.heap.size, 2, none⟩ = some (.string Fb) := (by rw [cell_of_row _ _ _ _ _ _ (HBY.out w8 hb8).2]; rfl); have v83 : w8.cell? ⟨w7.heap.size, 3, none⟩ = some (.slice A7 Rb.length c7) := (by rw [cell_of_row _ _ _ _ _ _ (HBY.out w8 hb8).2]; rfl); have v84 : w8.cell? ⟨w7.heap.size, 4, none⟩ = some (.int .i64 0) := (by rw [cell_of_row _ _ _ _ _ _ (HBY.out w8 hb8).2]; rfl); clear hb8) | (go_at_call 33; refine Calls.mono (From.go HMT.out (by first | exact Below.refl _ _ | exact HB8.out)) ?_; rintro e w8 ⟨rfl, hb8⟩; have HB8 := Lib.hid hb8; have u80 : w8.cell? ⟨w6.heap.size, 0, none⟩ = some (.string La) := (by rw [cell_of_row _ _ _ _ _ _ (HBY.out w8 hb8).1]; rfl); have u81 : w8.cell? ⟨w6.heap.size, 1, none⟩ = some (.string Ma) := (by rw [cell_of_row _ _ _ _ _ _ (HBY.out w8 hb8).1]; rfl); have u82 : w8.cell? ⟨w6.heap.size, 2, none⟩ = some (.string Fa) := (by rw [cell_of_row _ _ _ _ _ _ (HBY.out w8 hb8).1]; rfl); have u83 : w8.cell? ⟨w6.heap.size, 3, none⟩ = some (.slice A6 Ra.length c6) := (by rw [cell_of_row _ _ _ _ _ _ (HBY.out w8 hb8).1]; rfl); have u84 : w8.cell? ⟨w6.heap.size, 4, none⟩ = some (.int .i64 1) := (by rw [cell_of_row _ _ _ _ _ _ (HBY.out w8 hb8).1]; rfl); have v80 : w8.cell? ⟨w7.heap.size, 0, none⟩ = some (.string Lb) := (by rw [cell_of_row _ _ _ _ _ _ (HBY.out w8 hb8).2]; rfl); have v81 : w8.cell? ⟨w7.heap.size, 1, none⟩ = some (.string Mb) := (by rw [cell_of_row _ _ _ _ _ _ (HBY.out w8 hb8).2]; rfl); have v82 : w8.cell? ⟨w7.heap.size, 2, none⟩ = some (.string Fb) := (by rw [cell_of_row _ _ _ _ _ _ (HBY.out w8 hb8).2]; rfl); have v83 : w8.cell? ⟨w7.heap.size, 3, none⟩ = some (.slice A7 Rb.length c7) := (by rw [cell_of_row _ _ _ _ _ _ (HBY.out w8 hb8).2]; rfl); have v84 : w8.cell? ⟨w7.heap.size, 4, none⟩ = some (.int .i64 0) := (by rw [cell_of_row _ _ _ _ _ _ (HBY.out w8 hb8).2]; rfl); clear hb8))
      go_ret
      exact ⟨rfl, HB7.out.trans (HB8.out.mono HB7.out.size)⟩

end Go.Proofs.Ytakadkhgcjndmaa.W
