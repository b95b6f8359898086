/-
  The exact law of BlockRead, as a walk over the contracts.
-/
import Derived.Test.YtbckgmfopbpocaaDoorC5
import Derived.Test.YtbckgmfopbpocaaDoorEU
import Derived.Test.YtbckgmfopbpocaaDoorE9
namespace Go.Proofs.YtbckgmfopbpocaaDoor.W
open Go.RowKit K R B
theorem ownE_ents2 {w : World} {base n c : Nat} {A : Option Addr} {l : List En} (h : OwnE w base (.slice A n c) l) : Ents w w.heap.size A n l := by
  obtain ⟨A', c', hv, _, _, he⟩ := ownE_parts h
  injection hv with e1 e2 e3
  subst e1 e2 e3
  exact he

theorem grown_lowE {w w' : World} {B g : Nat} (hg : w.grownBy w' (some g)) (hB : B ≤ w.heap.size) (h : B ≤ g) : Below B w w' :=
  (Below.refl B w).grown hg hB fun k hk => by injection hk with hk; omega
theorem row_low {E : TypeId} {sz m : Nat} {w w' : World} {base B : Nat} {v : Value} {cs : List Value} (h : w.ownsRow base E sz v m cs) (hg : w.grownBy w' v.ownBlock) (hB : B ≤ w.heap.size) (hb : B ≤ base) : Below B w w' :=
  (Below.refl B w).grown hg hB fun k hk => Nat.le_trans hb (World.ownsRow.lt h k hk).1
theorem ents_marks {w : World} {base n c : Nat} {A : Option Addr} (h : OwnE w base (.slice A n c) (marksE n)) : Ents w w.heap.size A n (marksE n) := ownE_ents2 h
theorem read_len {t : List UInt8} : ((readL t).getD []).length ≤ 40 := by
  cases e : readL t with
  | none => simp
  | some l =>
    obtain ⟨h1, h2⟩ := read_some.mp e
    exact (run_iff.mp (block_ne (l := l) (by rw [h2]; exact h1)).1).1
theorem errOn {w w' : World} (h : ErrB w.heap.size w) (hb : Below w.heap.size w w') : ErrB w'.heap.size w' := fun W hW => h W (hb.trans (hW.mono hb.size))

set_option maxHeartbeats 8000000 in
set_option maxRecDepth 100000 in
theorem exactBlockRead (w : World) (s : ByteArray) (hT : Tab w) (hE : ErrB w.heap.size w) :
    Calls Tryd.prog 9 #[.string s] w fun e w' => e = .returned (.bool true) ∧ Below w.heap.size w w' := by
  by_cases hbig : (1048576 : Int) < (s.size : Int)
  · go_enter Tryd.func9, Tryd.ntmps9
    go_wp2
    go_ret
    exact ⟨rfl, Below.refl _ _⟩
  have HS := Lib.hid (show ∀ W : World, Calls Tryd.prog 16 #[.string s] W (ReadA W (readL s.data.toList)) from fun W => readS s W (by omega))
  have HI := Lib.hid (show ∀ W, Below w.heap.size w W → Calls Tryd.prog 13 #[.string s] W (ReadA W (readL s.data.toList)) from fun W hW => readI s W (by omega) (hT.on hW) (errOn hE hW))
  have hrl := read_len (t := s.data.toList)
  obtain ⟨res, hres⟩ : ∃ r, r = (readL s.data.toList).getD [] := ⟨_, rfl⟩
  obtain ⟨ok, hok⟩ : ∃ r, r = (readL s.data.toList).isSome := ⟨_, rfl⟩
  unfold ReadA at HS HI
  rw [← hres, ← hok] at HS HI
  rw [← hres] at hrl
  have HB := Lib.hid (Below.refl w.heap.size w)
  have hs_w := Nat.le_refl w.heap.size
  have e1 : (ok != ok) = false := by simp
  clear hres hok hT hE
  go_enter Tryd.func9, Tryd.ntmps9
  go_wp2_with fail
  go_at_call 16
  refine Calls.mono (HS.out w) ?_
  rintro e w2 ⟨v3, rfl, o3, b_⟩
  obtain ⟨Aw, cw, hv3, -, -, q3⟩ := ownE_parts o3
  subst hv3
  have hs_w2 := b_.size
  replace HB := Lib.hid (HB.out.trans (b_.mono HB.out.size))
  have Q := Lib.hid q3
  clear o3 b_ q3
  go_wp2_with fail
  go_at_call 13
  refine Calls.mono (HI.out w2 HB.out) ?_
  rintro e w3 ⟨v5, rfl, o5, b_⟩
  obtain ⟨Ag, cg, hv5, -, -, -⟩ := ownE_parts o5
  subst hv5
  have hs_w3 := b_.size
  replace Q := Lib.hid (Q.out.below b_ (by omega))
  replace HB := Lib.hid (HB.out.trans (b_.mono HB.out.size))
  have OG := Lib.hid o5
  clear o5 b_
  go_wp2_with fail
  go_at_call 20
  refine Calls.mono (eqEnS w3 w3.heap.size res.length _ _ _ _ res (ownE_ents2 OG.out) (Q.out.more (by omega)) (Nat.le_refl _) (by unfold maxLen; omega)) ?_
  rintro e w4 ⟨rfl, b_⟩
  have hs_w4 := b_.size
  replace OG := Lib.hid (rowBelow OG.out b_)
  replace Q := Lib.hid (Q.out.below b_ (by omega))
  replace HB := Lib.hid (HB.out.trans (b_.mono HB.out.size))
  clear b_
  go_wp2_with fail
  go_at_call 21
  refine Calls.mono (markE2 w4 w2.heap.size cg Ag _ OG.out (by omega)) ?_
  rintro e w5 ⟨rfl, o_, g_⟩
  have hs_w5 := g_.size
  have b_ := row_low OG.out g_ (show w2.heap.size ≤ w4.heap.size by omega) (Nat.le_refl _)
  replace OG := Lib.hid o_
  replace Q := Lib.hid (Q.out.below b_ (by omega))
  replace HB := Lib.hid (HB.out.trans (b_.mono (by omega)))
  clear o_ b_ g_
  go_wp2_with fail
  go_at_call 22
  refine Calls.mono (heldE w5 w5.heap.size res.length cg Ag (ents_marks OG.out) (Nat.le_refl _) (by omega)) ?_
  rintro e w6 ⟨rfl, b_⟩
  have hs_w6 := b_.size
  replace OG := Lib.hid (rowBelow OG.out b_)
  replace Q := Lib.hid (Q.out.below b_ (by omega))
  replace HB := Lib.hid (HB.out.trans (b_.mono HB.out.size))
  clear b_
  go_wp2_with fail
  go_at_call 13
  refine Calls.mono (HI.out w6 HB.out) ?_
  rintro e w7 ⟨ve, rfl, oe, b_⟩
  obtain ⟨Ah, ch, hve, -, -, se⟩ := ownE_parts oe
  subst hve
  have hs_w7 := b_.size
  replace OG := Lib.hid (rowBelow OG.out b_)
  replace Q := Lib.hid (Q.out.below b_ (by omega))
  replace HB := Lib.hid (HB.out.trans (b_.mono HB.out.size))
  have PH := Lib.hid se
  clear oe b_ se
  go_wp2_with fail
  go_at_call 20
  refine Calls.mono (eqEnS w7 w7.heap.size res.length _ _ _ _ res (PH.out.more (by omega)) (Q.out.more (by omega)) (Nat.le_refl _) (by unfold maxLen; omega)) ?_
  rintro e w8 ⟨rfl, b_⟩
  have hs_w8 := b_.size
  replace OG := Lib.hid (rowBelow OG.out b_)
  replace Q := Lib.hid (Q.out.below b_ (by omega))
  replace PH := Lib.hid (PH.out.below b_ (by omega))
  replace HB := Lib.hid (HB.out.trans (b_.mono HB.out.size))
  clear b_
  clear PH
  clear Q
  go_wp2_with fail
  go_at_call 22
  refine Calls.mono (heldE w8 w8.heap.size res.length cg Ag (ents_marks OG.out) (Nat.le_refl _) (by omega)) ?_
  rintro e w9 ⟨rfl, b_⟩
  have hs_w9 := b_.size
  replace OG := Lib.hid (rowBelow OG.out b_)
  replace HB := Lib.hid (HB.out.trans (b_.mono HB.out.size))
  clear b_
  go_wp2
  go_ret
  exact ⟨rfl, HB.out⟩

end Go.Proofs.YtbckgmfopbpocaaDoor.W
