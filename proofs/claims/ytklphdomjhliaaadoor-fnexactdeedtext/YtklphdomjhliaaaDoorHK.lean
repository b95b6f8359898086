/-
  The laws' own functions over deeds; the exact laws of DeedText and DeedRead.
-/
import Derived.Test.YtklphdomjhliaaaDoorHI
namespace Go.Proofs.YtklphdomjhliaaaDoor.W
open Go.RowKit K R B

/-- whether two deeds are the same, field by field -/
def sameD (a b : De) : Bool := decide (a.kind = b.kind) && (eqs a.key b.key && decide (a.num = b.num))
set_option maxHeartbeats 2000000 in
theorem eqDeedS (d : De) (w : World) :
    Calls Tryd.prog 16 #[.agg #[.int .i64 d.kind, .string d.key, .int .i64 d.num], .agg #[.int .i64 d.kind, .string d.key, .int .i64 d.num]] w fun e w' => e = .returned (.bool true) ∧ Below w.heap.size w w' := by
  have HB := Lib.hid (((Below.refl w.heap.size w).alloc (Nat.le_refl _) (.cells #[.int .i64 d.kind, .string d.key, .int .i64 d.num] 24)).alloc (by simp) (.cells #[.int .i64 d.kind, .string d.key, .int .i64 d.num] 24))
  have e1 : (d.key.toList == d.key.toList) = true := by simp
  go_enter Tryd.func16, Tryd.ntmps16
  go_wp2
  go_ret
  exact ⟨rfl, HB.out⟩

def ReadA2 (t : List UInt8) (w : World) (e : Ending) (w' : World) : Prop :=
  ∃ d b, e = .returned (.tuple #[.agg #[.int .i64 (De.kind d), .string d.key, .int .i64 d.num], .bool b]) ∧ d = (readD t).getD ⟨0, ⟨#[]⟩, 0⟩ ∧ b = (readD t).isSome ∧ Below w.heap.size w w'
theorem readA2 {t : List UInt8} {w w' : World} {e : Ending} (h : ((∃ d, readD t = some d ∧ e = .returned (.tuple #[.agg #[.int .i64 d.kind, .string d.key, .int .i64 d.num], .bool true])) ∨ readD t = none ∧ e = .returned (.tuple #[.agg #[.int .i64 0, .string ⟨#[]⟩, .int .i64 0], .bool false])) ∧ Below w.heap.size w w') : ReadA2 t w e w' := by
  rcases h with ⟨⟨d, h1, h2⟩ | ⟨h1, h2⟩, hb⟩
  · exact ⟨d, true, h2, by rw [h1]; rfl, by rw [h1]; rfl, hb⟩
  · exact ⟨⟨0, ⟨#[]⟩, 0⟩, false, h2, by rw [h1]; rfl, by rw [h1]; rfl, hb⟩
theorem errOnW {w w' : World} (h : ErrB w.heap.size w) (hb : Below w.heap.size w w') : ErrB w'.heap.size w' := fun W hW => h W (hb.trans (hW.mono hb.size))

set_option maxHeartbeats 4000000 in
set_option maxRecDepth 100000 in
theorem exactDeedRead (w : World) (s : ByteArray) (hT : Tab w) (hE : ErrB w.heap.size w) :
    Calls Tryd.prog 7 #[.string s] w fun e w' => e = .returned (.bool true) ∧ Below w.heap.size w w' := by
  by_cases hbig : (1048576 : Int) < (s.size : Int)
  · go_enter Tryd.func7, Tryd.ntmps7
    go_wp2
    go_ret
    exact ⟨rfl, Below.refl _ _⟩
  obtain ⟨d, hd⟩ : ∃ d, d = (readD s.data.toList).getD ⟨0, ⟨#[]⟩, 0⟩ := ⟨_, rfl⟩
  obtain ⟨b, hbb⟩ : ∃ b, b = (readD s.data.toList).isSome := ⟨_, rfl⟩
  have HS := Lib.hid (show ∀ W : World, Calls Tryd.prog 13 #[.string s] W fun e w' => e = .returned (.tuple #[.agg #[.int .i64 d.kind, .string d.key, .int .i64 d.num], .bool b]) ∧ Below W.heap.size W w' from fun W => (deedReadS s W (by omega)).mono fun e w' h => by
    obtain ⟨d', b', h1, h2, h3, h4⟩ := readA2 h
    subst h2 h3 hd hbb; exact ⟨h1, h4⟩)
  have HI := Lib.hid (show ∀ W, Below w.heap.size w W → Calls Tryd.prog 11 #[.string s] W fun e w' => e = .returned (.tuple #[.agg #[.int .i64 d.kind, .string d.key, .int .i64 d.num], .bool b]) ∧ Below W.heap.size W w' from fun W hW => (deedReadI s W W.heap.size (hT.on hW) (errOnW hE hW) (Nat.le_refl _)).mono fun e w' h => by
    obtain ⟨d', b', h1, h2, h3, h4⟩ := readA2 h
    subst h2 h3 hd hbb; exact ⟨h1, h4⟩)
  have HQ := Lib.hid (fun W => eqDeedS d W)
  have e1 : (b != b) = false := by simp
  clear hT hE hd hbb
  go_enter Tryd.func7, Tryd.ntmps7
  go_wp2_with fail
  go_at_call 13
  refine Calls.mono (HS.out w) ?_
  rintro e w1 ⟨rfl, hb1⟩
  have HB1 := Lib.hid (hb1.alloc hb1.size (.cells #[.int .i64 d.kind, .string d.key, .int .i64 d.num] 24))
  have hrow := heap_alloc_new w1 (.cells #[.int .i64 d.kind, .string d.key, .int .i64 d.num] 24)
  obtain ⟨W1, hW1⟩ : ∃ W, W = w1.alloc (.cells #[.int .i64 d.kind, .string d.key, .int .i64 d.num] 24) := ⟨_, rfl⟩
  go_upto_region 4 with fail
  rw [← hW1] at hrow HB1 ⊢
  obtain ⟨g, hg⟩ : ∃ g, g = w1.heap.size := ⟨_, rfl⟩
  rw [← hg] at hrow ⊢
  have HROW := Lib.hid hrow
  have hgl := (Array.getElem?_eq_some_iff.1 hrow).1
  clear hW1 hg hb1 hrow
  go_wp2_with fail
  go_at_call 11
  refine Calls.mono (HI.out W1 HB1.out) ?_
  rintro e w2 ⟨rfl, hb2⟩
  have HB2 := Lib.hid (HB1.out.trans (hb2.mono HB1.out.size))
  have hs2 := hb2.size
  obtain ⟨b0, b1, b2⟩ := cells_three ((heap_alloc_old w2 (.cells #[.int .i64 d.kind, .string d.key, .int .i64 d.num] 24) (by omega)).trans ((hb2.block g hgl).trans HROW.out))
  obtain ⟨c0, c1, c2⟩ := cells_three (heap_alloc_new w2 (.cells #[.int .i64 d.kind, .string d.key, .int .i64 d.num] 24))
  go_upto_region 5 with fail
  have HB3 := Lib.hid (HB2.out.alloc HB2.out.size (.cells #[.int .i64 d.kind, .string d.key, .int .i64 d.num] 24))
  obtain ⟨W2, hW2⟩ : ∃ W, W = w2.alloc (.cells #[.int .i64 d.kind, .string d.key, .int .i64 d.num] 24) := ⟨_, rfl⟩
  rw [← hW2] at b0 b1 b2 c0 c1 c2 HB3 ⊢
  clear hW2 hb2 HB2
  go_wp2_with (go_at_call 16; refine Calls.mono (HQ.out _) ?_; rintro e w3 ⟨rfl, hb3⟩)
  go_ret
  exact ⟨rfl, HB3.out.trans (hb3.mono HB3.out.size)⟩

set_option maxHeartbeats 2000000 in
theorem szDeedS (k : Int) (key : ByteArray) (num x : Int) (w : World) (hx0 : 0 ≤ x) (hx1 : x ≤ 1048576) (hk : key.size ≤ maxLen) :
    Calls Tryd.prog 14 #[.agg #[.int .i64 k, .string key, .int .i64 num], .int .i64 x] w fun e w' => e = .returned (.int .i64 (if (key.size : Int) ≤ x then x - key.size else -1)) ∧ Below w.heap.size w w' := by
  unfold maxLen at hk
  have HB := Lib.hid ((Below.refl w.heap.size w).alloc (Nat.le_refl _) (.cells #[.int .i64 k, .string key, .int .i64 num] 32))
  by_cases h : (key.size : Int) ≤ x
  · rw [if_pos h]
    have z1 : ¬ x - (key.size : Int) < 0 := by omega
    go_enter Tryd.func14, Tryd.ntmps14
    go_wp2
    go_ret
    exact ⟨rfl, HB.out⟩
  · rw [if_neg h]
    have z1 : x - (key.size : Int) < 0 := by omega
    clear h
    go_enter Tryd.func14, Tryd.ntmps14
    go_wp2
    go_ret
    exact ⟨rfl, HB.out⟩
set_option maxHeartbeats 2000000 in
theorem toDeedS (k : Int) (key : ByteArray) (num : Int) (w : World) :
    Calls Tryd.prog 15 #[.agg #[.int .i64 k, .string key, .int .i64 num]] w fun e w' => e = .returned (.agg #[.int .i64 k, .string key, .int .i64 num]) ∧ Below w.heap.size w w' := by
  go_enter Tryd.func15, Tryd.ntmps15
  go_wp2
  refine bodyPost_ret (v := .agg #[.int .i64 k, .string key, .int .i64 num]) ?_ rfl ⟨rfl, (((Below.refl _ _).alloc (Nat.le_refl _) _).alloc (by simp) _).alloc (by simp; omega) _⟩
  refine results_cell_row rfl _ _ (w.heap.size + 1) 24 _ (0, 0) _ rfl ((heap_alloc_old _ _ (by simp)).trans ?_) Tryd.underlying24 rfl (by kernel_rfl)
  have := heap_alloc_new (w.alloc (.cells #[.int .i64 k, .string key, .int .i64 num] 32)) (.cells #[.int .i64 k, .string key, .int .i64 num] 24)
  simpa using this

set_option maxHeartbeats 4000000 in
set_option maxRecDepth 100000 in
theorem exactDeedText (w : World) (k : Int) (key : ByteArray) (num : Int) (hk : key.size ≤ maxLen) (hT : Tab w) :
    Calls Tryd.prog 6 #[.agg #[.int .i64 k, .string key, .int .i64 num]] w fun e w' => e = .returned (.bool true) ∧ Below w.heap.size w w' := by
  have HZ := Lib.hid (fun W => szDeedS k key num 1048576 W (by omega) (by omega) hk)
  have HTO := Lib.hid (fun W => toDeedS k key num W)
  have HS := Lib.hid (fun W => deedS k key num W hk)
  have HI := Lib.hid (fun W hT => deedI k key num W hk hT)
  have HT := Lib.hid hT
  obtain ⟨T, hTT⟩ : ∃ T, T = ofL (deedL ⟨k, key, num⟩) := ⟨_, rfl⟩
  rw [← hTT] at HS HI
  have hB := (Below.refl w.heap.size w).alloc (Nat.le_refl _) (.cells #[.int .i64 k, .string key, .int .i64 num] 32)
  have hR := heap_alloc_new w (.cells #[.int .i64 k, .string key, .int .i64 num] 32)
  obtain ⟨W0, hW0⟩ : ∃ W, W = w.alloc (.cells #[.int .i64 k, .string key, .int .i64 num] 32) := ⟨_, rfl⟩
  rw [← hW0] at hB hR
  have HB := Lib.hid hB
  have HR := Lib.hid (show ∀ W, Below W0.heap.size W0 W → W.cell? ⟨w.heap.size, 0, none⟩ = some (.int .i64 k) ∧ W.cell? ⟨w.heap.size, 1, none⟩ = some (.string key) ∧ W.cell? ⟨w.heap.size, 2, none⟩ = some (.int .i64 num) from fun W hW => cells_three ((hW.block _ (Array.getElem?_eq_some_iff.1 hR).1).trans hR))
  have HW0 := Lib.hid hW0
  have hs0 := hB.size
  clear hT hTT hW0 hB hR
  by_cases h : (key.size : Int) ≤ 1048576
  · rw [if_pos h] at HZ
    have z1 : ¬ 1048576 - (key.size : Int) < 0 := by omega
    have e1 : (T.toList == T.toList) = true := by simp
    clear h
    go_enter Tryd.func6, Tryd.ntmps6
    go_upto_region 1 with fail
    rw [← HW0.out]
    obtain ⟨a0, a1, a2⟩ := HR.out W0 (Below.refl _ _)
    go_wp2_with fail
    go_at_call 14
    refine Calls.mono (HZ.out _) ?_
    rintro e w1 ⟨rfl, hb1⟩
    have B1 := Lib.hid hb1
    clear a0 a1 a2 hb1
    obtain ⟨a0, a1, a2⟩ := HR.out w1 B1.out
    go_wp2_with fail
    go_at_call 15
    refine Calls.mono (HTO.out _) ?_
    rintro e w2 ⟨rfl, hb2⟩
    have B2 := Lib.hid (B1.out.trans (hb2.mono B1.out.size))
    clear a0 a1 a2 hb2
    go_wp2_with fail
    go_at_call 10
    refine Calls.mono (HS.out _) ?_
    rintro e w3 ⟨rfl, hb3⟩
    have B3 := Lib.hid (B2.out.trans (hb3.mono B2.out.size))
    clear hb3
    obtain ⟨a0, a1, a2⟩ := HR.out w3 B3.out
    go_wp2_with fail
    go_at_call 15
    refine Calls.mono (HTO.out _) ?_
    rintro e w4 ⟨rfl, hb4⟩
    have B4 := Lib.hid (B3.out.trans (hb4.mono B3.out.size))
    clear a0 a1 a2 hb4
    go_wp2_with fail
    go_at_call 9
    refine Calls.mono (HI.out _ (HT.out.on (HB.out.trans (B4.out.mono HB.out.size)))) ?_
    rintro e w5 ⟨rfl, hb5⟩
    have B5 := Lib.hid (B4.out.trans (hb5.mono B4.out.size))
    clear hb5
    go_wp2
    go_ret
    exact ⟨rfl, HB.out.trans (B5.out.mono HB.out.size)⟩
  · rw [if_neg h] at HZ
    clear h
    go_enter Tryd.func6, Tryd.ntmps6
    go_upto_region 1 with fail
    rw [← HW0.out]
    obtain ⟨a0, a1, a2⟩ := HR.out W0 (Below.refl _ _)
    go_wp2_with (go_at_call 14; refine Calls.mono (HZ.out _) ?_; rintro e w1 ⟨rfl, hb1⟩; have B1 := Lib.hid hb1)
    go_ret
    exact ⟨rfl, HB.out.trans (B1.out.mono HB.out.size)⟩
end Go.Proofs.YtklphdomjhliaaaDoor.W
