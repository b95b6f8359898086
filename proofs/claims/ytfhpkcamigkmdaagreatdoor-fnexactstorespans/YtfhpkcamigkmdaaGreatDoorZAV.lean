/-
  The program's StoreOk; the exact law of StoreOk, as a walk over the contracts.
  The runs of a tree whose filters let pass, for a filter that is known by its answers.
  A tree's runs that pass, for the closure of StoreSpans.
  Contract of the model's SieveOk, at every filter that Go can hold: is it that of what it keeps.
  What a filter is, in mathematics and in memory; contracts of the model's SieveHeads and SieveSize, at every filter that Go can hold.
  Contract of the model's l3Wholes: of each key of a fork, in order, whether all of it is kept; at every filter of a key list.
  Contract of the model's l3Behind: the number of the first kept part that may not be ahead; at every slice of strings and every slice of as many bools.
  Contract of the model's SieveSeek: the first kept part that may not be ahead; at every filter that Go can hold.
-/
import Derived.Test.YtfhpkcamigkmdaaGreatDoorKB
import Derived.Test.YtfhpkcamigkmdaaGreatDoorZAS
import Derived.Test.YtfhpkcamigkmdaaGreatDoorZAN
import Derived.Deep.RegionHeld3
namespace Go.Proofs.YtfhpkcamigkmdaaGreatDoor.W
open Go.RowKit K R

theorem StM.own {w w' : World} {B : Nat} {A0 A1 A2 A5 : Option Addr} {c0 c1 c2 c5 : Nat} {s : Sto} (h : StM w B A0 A1 A2 A5 c0 c1 c2 c5 s) (hb : Below w.heap.size w w') (hB : B ≤ w.heap.size) : StM w' w'.heap.size A0 A1 A2 A5 c0 c1 c2 c5 s :=
  (h.below (hb.mono hB) (Nat.le_refl _)).more (Nat.le_trans hB hb.size)
/-- a new store reads as one -/
theorem OwnSt.reads {w : World} {base g0 g1 g2 g5 c0 c1 c2 c5 : Nat} {vs1 vs2 : List Value} {s : Sto} (h : OwnSt w base (.slice (some ⟨g0, 0, none⟩) s.top.length c0) (.slice (some ⟨g1, 0, none⟩) s.levels.length c1) (.slice (some ⟨g2, 0, none⟩) s.sieves.length c2) (.slice (some ⟨g5, 0, none⟩) s.times.length c5) vs1 vs2 s) :
    StM w w.heap.size (some ⟨g0, 0, none⟩) (some ⟨g1, 0, none⟩) (some ⟨g2, 0, none⟩) (some ⟨g5, 0, none⟩) c0 c1 c2 c5 s := by
  have cap : ∀ {E : TypeId} {sz g n c : Nat} {cs : List Value}, w.ownsRow base E sz (.slice (some ⟨g, 0, none⟩) n c) n cs → n ≤ c ∧ c ≤ maxLen := fun {E sz g n c cs} hh => by
    rcases hh.2 with ⟨hv, -⟩ | ⟨g', c', cur, hv, -, -, h1, h2, -, -⟩
    · cases hv
    · injection hv with _ _ e3
      subst e3
      exact ⟨h1, h2⟩
  exact ⟨OwnE.ents h.top rfl, h.levels.lvls, h.sieves.svs, OwnN.nums h.times rfl, cap h.top, cap h.levels.row, cap h.sieves.row, cap h.times⟩

end Go.Proofs.YtfhpkcamigkmdaaGreatDoor.W
namespace Go.Proofs.YtfhpkcamigkmdaaGreatDoor.W
open Go.RowKit K R

/-- the top and the levels that pass, of the first k -/
def vsK (v0 : Value) (A : Nat → Option Addr) (n c : Nat → Nat) (b : Nat → Bool) (k : Nat) : List Value := v0 :: ((List.range k).filter b).map fun i => .slice (A i) (n i) (c i)
theorem vsK_yes {v0 : Value} {A : Nat → Option Addr} {n c : Nat → Nat} {b : Nat → Bool} {k : Nat} (h : b k = true) : vsK v0 A n c b (k + 1) = vsK v0 A n c b k ++ [.slice (A k) (n k) (c k)] := by
  unfold vsK; rw [List.range_succ, List.filter_append, List.map_append]; simp [h]
theorem vsK_no {v0 : Value} {A : Nat → Option Addr} {n c : Nat → Nat} {b : Nat → Bool} {k : Nat} (h : b k = false) : vsK v0 A n c b (k + 1) = vsK v0 A n c b k := by
  unfold vsK; rw [List.range_succ, List.filter_append, List.map_append]; simp [h]
theorem idxG (A B : Nat → Option Addr) (n c m d : Nat → Nat) (X : Nat → Sf) (k : Nat) (hk : k < 3) (w : World) :
    (Instr.index 117 (.agg #[.slice (A 0) (n 0) (c 0), .string (X 0).letters, .string (X 0).more, .string (X 0).first, .slice (B 0) (m 0) (d 0), .int .i64 (X 0).keep, .slice (A 1) (n 1) (c 1), .string (X 1).letters, .string (X 1).more, .string (X 1).first, .slice (B 1) (m 1) (d 1), .int .i64 (X 1).keep, .slice (A 2) (n 2) (c 2), .string (X 2).letters, .string (X 2).more, .string (X 2).first, .slice (B 2) (m 2) (d 2), .int .i64 (X 2).keep]) (.int .i64 (k : Nat))).run Tryz.prog w
      = .ok (.agg #[.slice (A k) (n k) (c k), .string (X k).letters, .string (X k).more, .string (X k).first, .slice (B k) (m k) (d k), .int .i64 (X k).keep]) w := by
  rcases (by omega : k = 0 ∨ k = 1 ∨ k = 2) with rfl | rfl | rfl
  · exact idx0 _ _ _ _ _ _ _ _ _ _ _ _ _ _ _ _ _ _ w
  · exact idx1 _ _ _ _ _ _ _ _ _ _ _ _ _ _ _ _ _ _ w
  · exact idx2 _ _ _ _ _ _ _ _ _ _ _ _ _ _ _ _ _ _ w
/-- a tree's box, by letters -/
def boxG (A0 : Option Addr) (n0 c0 : Nat) (A B : Nat → Option Addr) (n c m d : Nat → Nat) (X : Nat → Sf) (v5 : Value) (keep time : Int) : Array Value :=
  treeC (.slice A0 n0 c0) (.slice (A 0) (n 0) (c 0)) (X 0) (.slice (B 0) (m 0) (d 0)) (.slice (A 1) (n 1) (c 1)) (X 1) (.slice (B 1) (m 1) (d 1)) (.slice (A 2) (n 2) (c 2)) (X 2) (.slice (B 2) (m 2) (d 2)) keep time v5

/-- how many of three pass -/
def cntB (b : Nat → Bool) : Int := (((List.range 3).filter b).length : Nat)
theorem cnt_len (v0 : Value) (A : Nat → Option Addr) (n c : Nat → Nat) (b : Nat → Bool) : ((vsK v0 A n c b 3).length : Int) = cntB b + 1 := by
  unfold vsK cntB; simp

end Go.Proofs.YtfhpkcamigkmdaaGreatDoor.W
namespace Go.Proofs.YtfhpkcamigkmdaaGreatDoor.W
open Go.RowKit K R

set_option maxHeartbeats 8000000 in
set_option maxRecDepth 100000 in
theorem passS (w : World) (g : Nat) (A0 : Option Addr) (n0 c0 : Nat) (A B : Nat → Option Addr) (n c m d : Nat → Nat) (X : Nat → Sf) (v5 : Value) (keep time : Int) (b : Nat → Bool) (p1 : Addr) (p2 : Addr)
    (hbox : w.heap[g]? = some (.cells (boxG A0 n0 c0 A B n c m d X v5 keep time) 119 (0, 0)))
    (hf : ∀ W, Below w.heap.size w W → ∀ k, k < 3 → Calls Tryz.prog 90 #[.agg #[.string (X k).letters, .string (X k).more, .string (X k).first, .slice (B k) (m k) (d k), .int .i64 (X k).keep], .pointer (some p1), .pointer (some p2)] W fun e w' => e = .returned (.bool (b k)) ∧ Below W.heap.size W w') :
    Calls Tryz.prog 72 #[.pointer (some ⟨g, 0, none⟩), .func (.func 90) #[] #[.pointer (some p1), .pointer (some p2)]] w fun e w' => ∃ gg N cap, e = .returned (.slice (some ⟨gg, 0, none⟩) N cap) ∧ w'.ownsRow w.heap.size 29 1 (.slice (some ⟨gg, 0, none⟩) N cap) N (vsK (.slice A0 n0 c0) A n c b 3) ∧ Below w.heap.size w w' := by
  unfold boxG at hbox
  have hgl : g < w.heap.size := (Array.getElem?_eq_some_iff.1 hbox).1
  obtain ⟨q0, -⟩ := tree_cells hbox
  obtain ⟨W1, hW1⟩ : ∃ W, W = w.alloc (.cells #[.slice A0 n0 c0] 29) := ⟨_, rfl⟩
  have hb1 : Below w.heap.size w W1 := by rw [hW1]; exact (Below.refl _ _).alloc (Nat.le_refl _) _
  have HO := Lib.hid (show W1.ownsRow w.heap.size 29 1 (.slice (some ⟨w.heap.size, 0, none⟩) 1 1) 1 [.slice A0 n0 c0] by rw [hW1]; exact own1 w _)
  obtain ⟨-, k1, k2, k3, k4, k5, k6, k7, k8, k9, k10, k11, k12, k13, k14, k15, k16, k17, k18, k19, k20, k21⟩ := tree_cells ((hb1.block g hgl).trans hbox)
  have HB := Lib.hid hb1
  have HW1 := Lib.hid hW1
  have HF := Lib.hid hf
  clear hbox hb1 hW1 hf
  go_enter Tryz.func72, Tryz.ntmps72
  go_upto_region 2 with fail
  rw [← HW1.out]
  go_wp2_with fail
  clear k1 k2 k3 k4 k5 k6 k7 k8 k9 k10 k11 k12 k13 k14 k15 k16 k17 k18 k19 k20 k21
  go_loopw [5, 17] (fun sv iv wr => ∃ (k N g1 cap : Nat) (VS : List Value), k ≤ 3 ∧ iv = .int .i64 (k : Nat) ∧ sv = .slice (some ⟨g1, 0, none⟩) N cap ∧ N ≤ k + 1 ∧ Hid (VS = vsK (.slice A0 n0 c0) A n c b k) ∧ wr.ownsRow w.heap.size 29 1 (.slice (some ⟨g1, 0, none⟩) N cap) N VS ∧ Below w.heap.size w wr) (fun _ iv _ => 3 - (intOf iv).toNat)
  case atStart => exact ⟨0, 1, w.heap.size, 1, _, by omega, rfl, rfl, by omega, Lib.hid rfl, HO.out, HB.out⟩
  case round =>
    obtain ⟨k, N, g1, cap, VS, hk, rfl, rfl, hN, HVS, ho, hb⟩ := hrel
    have HOL := Lib.hid ho
    have HBL := Lib.hid hb
    clear ho hb
    by_cases hlt : k < 3
    · have hix := fun W => idxG A B n c m d X k hlt W
      have hlti : (k : Int) < 3 := by omega
      have HC := Lib.hid (fun W (hW : Below w.heap.size w W) => HF.out W hW k hlt)
      obtain ⟨bk, hbk⟩ : ∃ bk, bk = b k := ⟨_, rfl⟩
      rw [← hbk] at HC
      have HBK := Lib.hid hbk
      obtain ⟨Ak, hAk⟩ : ∃ x, x = A k := ⟨_, rfl⟩
      obtain ⟨nk, hnk⟩ : ∃ x, x = n k := ⟨_, rfl⟩
      obtain ⟨ck, hck⟩ : ∃ x, x = c k := ⟨_, rfl⟩
      obtain ⟨Bk, hBk⟩ : ∃ x, x = B k := ⟨_, rfl⟩
      obtain ⟨mk, hmk⟩ : ∃ x, x = m k := ⟨_, rfl⟩
      obtain ⟨dk, hdk⟩ : ∃ x, x = d k := ⟨_, rfl⟩
      have HL := Lib.hid (show (.slice (A k) (n k) (c k) : Value) = .slice Ak nk ck by rw [hAk, hnk, hck])
      rw [← hBk, ← hmk, ← hdk] at HC
      rw [← hAk, ← hnk, ← hck, ← hBk, ← hmk, ← hdk] at hix
      obtain ⟨Xk, hXk⟩ : ∃ x, x = X k := ⟨_, rfl⟩
      rw [← hXk] at HC hix
      clear hbk hAk hnk hck hBk hmk hdk hXk
      go_wp2_with fail
      go_at_call 90
      refine Calls.mono (HC.out _ (HBL.out.alloc HBL.out.size _)) ?_
      rintro e y1 ⟨rfl, by1⟩
      have p1 := slot_new by1 (u := .slice Ak nk ck) rfl
      have HP1 := Lib.hid (rowBelow (World.ownsRow.alloc HOL.out _) by1)
      have HQ1 := Lib.hid ((HBL.out.alloc HBL.out.size _).trans (by1.mono (Nat.le_trans HBL.out.size (by simp))))
      clear by1
      cases bk with
      | true =>
        have HN := Lib.hid (vsK_yes (v0 := .slice A0 n0 c0) (A := A) (n := n) (c := c) HBK.out.symm)
        go_wp2_with (at_builtin; go_must (refine app_sl rfl (.tmp 24) (.tmp 27) rfl _ w.heap.size _ N VS rfl (World.ownsRow.alloc HP1.out _) y1.heap.size 1 (.slice Ak nk ck) rfl (cell_new _ _ _) rfl (by omega) (Nat.le_trans HQ1.out.size (by simp)) ?_); intro g2 cap2 z2 o2 gr2; have HO2 := Lib.hid o2; have HB2 := Lib.hid (low_app (HQ1.out.alloc HQ1.out.size _) (World.ownsRow.alloc HP1.out _) gr2); clear o2 gr2)
        go_roundw
        case rel => exact ⟨k + 1, N + 1, g2, cap2, VS ++ [.slice Ak nk ck], by omega, by go_num, rfl, by omega, Lib.hid (by rw [HN.out, HVS.out, HL.out]), HO2.out, HB2.out⟩
        case measure => simp [intOf]; omega
      | false =>
        have HN := Lib.hid (vsK_no (v0 := .slice A0 n0 c0) (A := A) (n := n) (c := c) HBK.out.symm)
        go_wp2
        go_roundw
        case rel => exact ⟨k + 1, N, g1, cap, VS, by omega, by go_num, rfl, by omega, Lib.hid (by rw [HN.out, HVS.out]), HP1.out, HQ1.out⟩
        case measure => simp [intOf]; omega
    · have hke : k = 3 := by omega
      subst hke
      have hfin := HVS.out
      subst hfin
      have hng : ¬ ((3 : Nat) : Int) < 3 := by omega
      go_wp2
      go_ret
      exact ⟨g1, N, cap, rfl, HOL.out, HBL.out⟩

set_option maxHeartbeats 4000000 in
theorem countS (w : World) (g : Nat) (A0 : Option Addr) (n0 c0 : Nat) (A B : Nat → Option Addr) (n c m d : Nat → Nat) (X : Nat → Sf) (v5 : Value) (keep time : Int) (b : Nat → Bool) (p1 : Addr) (p2 : Addr)
    (hbox : w.heap[g]? = some (.cells (boxG A0 n0 c0 A B n c m d X v5 keep time) 119 (0, 0)))
    (hf : ∀ W, Below w.heap.size w W → ∀ k, k < 3 → Calls Tryz.prog 90 #[.agg #[.string (X k).letters, .string (X k).more, .string (X k).first, .slice (B k) (m k) (d k), .int .i64 (X k).keep], .pointer (some p1), .pointer (some p2)] W fun e w' => e = .returned (.bool (b k)) ∧ Below W.heap.size W w') :
    Calls Tryz.prog 88 #[.pointer (some ⟨g, 0, none⟩), .func (.func 90) #[] #[.pointer (some p1), .pointer (some p2)]] w fun e w' => e = .returned (.int .i64 (cntB b)) ∧ Below w.heap.size w w' := by
  have HP := Lib.hid (passS w g A0 n0 c0 A B n c m d X v5 keep time b p1 p2 hbox hf)
  clear hbox hf
  go_enter Tryz.func88, Tryz.ntmps88
  go_wp2_with fail
  go_at_call 72
  refine Calls.mono HP.out ?_
  rintro e w2 ⟨gg, N, cap, rfl, ho, hb⟩
  have hw : IntKind.i64.wrap ((N : Int) - 1) = cntB b := by
    have h1 : (vsK (.slice A0 n0 c0) A n c b 3).length = N * 1 := ho.1
    have h2 := cnt_len (.slice A0 n0 c0) A n c b
    have h3 : cntB b = (N : Int) - 1 := by omega
    have h4 : (((List.range 3).filter b).length : Int) ≤ 3 := by have := List.length_filter_le b (List.range 3); simp at this; omega
    rw [i64_z _ (by unfold cntB at h3; omega) (by unfold cntB at h3; omega), h3]
  have HB := Lib.hid hb
  clear ho hb
  go_wp2
  go_ret
  exact ⟨rfl, HB.out⟩

end Go.Proofs.YtfhpkcamigkmdaaGreatDoor.W
namespace Go.Proofs.YtfhpkcamigkmdaaGreatDoor.T
/-- what is kept is short -/
theorem add_short (s : Sv) (B : Nat) (hB : ∀ r ∈ s.rests, r.length ≤ B) : ∀ (n i t : Nat) (head : Str), s.letters.length - i ≤ n → ∀ y ∈ s.add i t head, y.length ≤ 6 + B
  | 0, i, t, head, hn => by
    intro y hy
    rw [Sv.add, dif_neg (by omega)] at hy
    cases hy
  | n + 1, i, t, head, hn => by
    intro y hy
    rw [Sv.add] at hy
    by_cases hh : i < t ∧ i < s.letters.length ∧ head.length ≤ 5
    · rw [dif_pos hh] at hy
      by_cases hm : s.more.getD i 0 = 49
      · rw [if_pos hm] at hy
        by_cases ha : (s.kids i).1 ≤ i
        · rw [dif_pos ha] at hy; cases hy
        · rw [dif_neg ha] at hy
          rcases List.mem_append.mp hy with h | h
          · exact add_short s B hB n _ _ _ (by omega) y h
          · exact add_short s B hB n _ _ _ (by omega) y h
      · rw [if_neg hm] at hy
        rcases List.mem_append.mp hy with h | h
        · by_cases hq : i - s.rank i < s.rests.length
          · rw [if_pos hq] at h
            have h1 := List.mem_singleton.mp h
            have hr : (s.rests.getD (i - s.rank i) []).length ≤ B := by
              rw [List.getD_eq_getElem?_getD, List.getElem?_eq_getElem hq]
              exact hB _ (List.getElem_mem hq)
            have hn1 : (s.now head i).length ≤ head.length + 1 := by unfold Sv.now; split <;> simp
            rw [h1, List.length_append]
            omega
          · rw [if_neg hq] at h; cases h
        · exact add_short s B hB n _ _ _ (by omega) y h
    · rw [dif_neg hh] at hy; cases hy
end Go.Proofs.YtfhpkcamigkmdaaGreatDoor.T
namespace Go.Proofs.YtfhpkcamigkmdaaGreatDoor.W
open Go.RowKit K

/-- what is kept, as strings -/
def hsOf (L M F : ByteArray) (l : List ByteArray) (kp : Nat) : List ByteArray := (svOf L M F l kp).heads.map ba
theorem ls_hs (L M F : ByteArray) (l : List ByteArray) (kp : Nat) : ls (hsOf L M F l kp) = (svOf L M F l kp).heads := by
  unfold ls hsOf
  rw [List.map_map]
  have : ∀ y ∈ (svOf L M F l kp).heads, ((fun z : ByteArray => z.toList) ∘ ba) y = id y := fun y _ => ba_l y
  rw [List.map_congr_left this, List.map_id]
/-- a filter is that of what it keeps -/
def backB (L M F : ByteArray) (l : List ByteArray) (kp : Nat) : Bool :=
  keysB (hsOf L M F l kp) && (eqs (ba (T.sieve kp (svOf L M F l kp).heads).letters) L && (eqs (ba (T.sieve kp (svOf L M F l kp).heads).more) M && (eqs (ba (T.sieve kp (svOf L M F l kp).heads).first) F && sameL ((T.sieve kp (svOf L M F l kp).heads).rests.map ba) l)))
/-- a filter is one -/
def svB (L M F : ByteArray) (l : List ByteArray) (keep : Int) : Bool := formB L M F l.length keep && backB L M F l keep.toNat
theorem hs_len {L M F : ByteArray} {l : List ByteArray} {kp : Nat} (hLM : M.size = L.size) : (hsOf L M F l kp).length ≤ L.size := by
  unfold hsOf
  rw [List.length_map]
  have h1 := T.add_le (svOf L M F l kp) (svOf L M F l kp).letters.length 0 ((svOf L M F l kp).sel 1) [] (by omega)
  have h2 := T.cnt_root (svOf L M F l kp) (by show M.toList.length = L.toList.length; rw [len_L, len_L, hLM])
  have h3 : (svOf L M F l kp).letters.length = L.size := len_L L
  unfold T.Sv.heads
  omega
theorem hs_fit {L M F : ByteArray} {l : List ByteArray} {kp : Nat} (hl : ∀ i (h : i < l.length), l[i].size ≤ 1000000000000) : ∀ s ∈ hsOf L M F l kp, s.size ≤ 1000000000006 := by
  intro s hs
  unfold hsOf at hs
  obtain ⟨y, hy, rfl⟩ := List.mem_map.mp hs
  have := T.add_short (svOf L M F l kp) 1000000000000 (fun r hr => by
    have hr' : r ∈ l.map (·.toList) := hr
    obtain ⟨z, hz, rfl⟩ := List.mem_map.mp hr'
    obtain ⟨i, hi, rfl⟩ := List.mem_iff_getElem.mp hz
    rw [len_L]; exact hl i hi) (svOf L M F l kp).letters.length 0 ((svOf L M F l kp).sel 1) [] (by omega) y hy
  have e : (ba y).size = y.length := by rw [← len_L, ba_l]
  omega

set_option maxRecDepth 8000 in
set_option maxHeartbeats 4000000 in
theorem okSv (L M F : ByteArray) (A : Option Addr) (n c : Nat) (l : List ByteArray) (keep : Int) (w : World) (hL : L.size ≤ maxLen) (hM : M.size ≤ maxLen) (hF : F.size ≤ maxLen) (hr : Strs w w.heap.size A n l) (hnc : n ≤ c) (hc : c ≤ maxLen) (hfit : ∀ i (h : i < l.length), l[i].size ≤ 1000000000000) :
    Calls Tryz.prog 120 #[.agg #[.string L, .string M, .string F, .slice A n c, .int .i64 keep]] w fun e w' => e = .returned (.bool (svB L M F l keep)) ∧ Below w.heap.size w w' := by
  have hlen := hr.len
  subst hlen
  have HR := Lib.hid hr
  have HFI := Lib.hid hfit
  have HFO := Lib.hid (show ∀ W : World, Calls Tryz.prog 160 #[.agg #[.string L, .string M, .string F, .slice A l.length c, .int .i64 keep]] W fun e w' => e = .returned (.bool (formB L M F l.length keep)) ∧ Below W.heap.size W w' from fun W => formS L M F A l.length c keep W hL hM hF)
  clear hr hfit
  rcases Bool.eq_false_or_eq_true (formB L M F l.length keep) with hfo | hfo
  · rw [hfo] at HFO
    have HFB := Lib.hid hfo
    obtain ⟨p1, p2, p3, p4, p5, p6⟩ := form_parts hfo
    obtain ⟨kp, rfl⟩ := Int.eq_ofNat_of_zero_le p5
    clear hfo
    go_enter Tryz.func120, Tryz.ntmps120
    go_wp2_with fail
    go_at_call 160
    refine (HFO.out _).mono ?_
    rintro e w1 ⟨rfl, hb1⟩
    have hbx : w1.heap[w.heap.size]? = some (Obj.cells #[.string L, .string M, .string F, .slice A l.length c, .int .i64 kp] 92) := by rw [hb1.block _ (by simp)]; exact heap_alloc_new _ _
    have hbw : Below w.heap.size w w1 := ((Below.refl _ _).alloc (Nat.le_refl _) _).trans (hb1.mono (by simp))
    have hs1 : w.heap.size < w1.heap.size := (Array.getElem?_eq_some_iff.1 hbx).1
    have a0 : w1.cell? ⟨w.heap.size, 0, none⟩ = some (.string L) := by rw [cell_of_row _ _ _ _ _ _ hbx]; rfl
    have a1 : w1.cell? ⟨w.heap.size, 1, none⟩ = some (.string M) := by rw [cell_of_row _ _ _ _ _ _ hbx]; rfl
    have a2 : w1.cell? ⟨w.heap.size, 2, none⟩ = some (.string F) := by rw [cell_of_row _ _ _ _ _ _ hbx]; rfl
    have a3 : w1.cell? ⟨w.heap.size, 3, none⟩ = some (.slice A l.length c) := by rw [cell_of_row _ _ _ _ _ _ hbx]; rfl
    have a4 : w1.cell? ⟨w.heap.size, 4, none⟩ = some (.int .i64 kp) := by rw [cell_of_row _ _ _ _ _ _ hbx]; rfl
    have HHS := Lib.hid (show Calls Tryz.prog 121 #[.agg #[.string L, .string M, .string F, .slice A l.length c, .int .i64 kp]] w1 (New w1 (hsOf L M F l kp)) from headsS L M F A l.length c l kp w.heap.size w1 p1 p2 p3 (by omega) HFI.out (HR.out.below hbw (Nat.le_refl _)) (by omega))
    have HBX := Lib.hid hbx
    have HBW := Lib.hid hbw
    clear hbx hbw hb1
    go_wp2_with fail
    go_at_call 121
    refine HHS.out.mono ?_
    rintro e w2 ⟨v2, rfl, ho2, hb2⟩
    obtain ⟨A2, c2, hv2, hc2, hm2, hst2⟩ := ho2.parts
    subst hv2
    have hbx2 : w2.heap[w.heap.size]? = some (Obj.cells #[.string L, .string M, .string F, .slice A l.length c, .int .i64 kp] 92) := by rw [hb2.block _ hs1]; exact HBX.out
    have hs2 : w1.heap.size ≤ w2.heap.size := hb2.size
    clear a0 a1 a2 a3 a4
    have a4 : w2.cell? ⟨w.heap.size, 4, none⟩ = some (.int .i64 kp) := by rw [cell_of_row _ _ _ _ _ _ hbx2]; rfl
    have HOF := Lib.hid (ofS w2 _ c2 A2 (hsOf L M F l kp) kp hst2 hc2 hm2 (fun s hs => Nat.le_trans (hs_fit HFI.out s hs) (by unfold maxLen; omega)))
    have HBX2 := Lib.hid hbx2
    have HBW2 := Lib.hid (HBW.out.trans (hb2.mono (by omega)))
    have HR2 := Lib.hid (HR.out.below HBW2.out (Nat.le_refl _))
    clear hbx2 hb2 ho2 hst2
    obtain ⟨n2, hn2⟩ : ∃ n2, n2 = (hsOf L M F l kp).length := ⟨_, rfl⟩
    rw [← hn2] at HOF hc2 ⊢
    clear hn2
    go_wp2_with fail
    go_at_call 107
    refine HOF.out.mono ?_
    intro e w3 hof
    rcases hof with ⟨hk, -, hofr⟩ | ⟨hno, rfl, hb3⟩
    · obtain ⟨v4, rfl, ho4, hb3⟩ := hofr
      rw [Int.toNat_natCast, ls_hs] at ho4 ⊢
      have HBK := Lib.hid (show backB L M F l kp = (eqs (ba (T.sieve kp (svOf L M F l kp).heads).letters) L && (eqs (ba (T.sieve kp (svOf L M F l kp).heads).more) M && (eqs (ba (T.sieve kp (svOf L M F l kp).heads).first) F && sameL ((T.sieve kp (svOf L M F l kp).heads).rests.map ba) l))) by unfold backB; rw [hk]; rfl)
      generalize ba (T.sieve kp (svOf L M F l kp).heads).letters = y1 at HBK ⊢
      generalize ba (T.sieve kp (svOf L M F l kp).heads).more = y2 at HBK ⊢
      generalize ba (T.sieve kp (svOf L M F l kp).heads).first = y3 at HBK ⊢
      generalize (T.sieve kp (svOf L M F l kp).heads).rests.map ba = y4 at HBK ho4
      obtain ⟨A4, c4, hv4, hc4, hm4, hst4⟩ := ho4.parts
      subst hv4
      have hbx3 : w3.heap[w.heap.size]? = some (Obj.cells #[.string L, .string M, .string F, .slice A l.length c, .int .i64 kp] 92) := by rw [hb3.block _ (by omega)]; exact HBX2.out
      have b0 : w3.cell? ⟨w.heap.size, 0, none⟩ = some (.string L) := by rw [cell_of_row _ _ _ _ _ _ hbx3]; rfl
      have b1 : w3.cell? ⟨w.heap.size, 1, none⟩ = some (.string M) := by rw [cell_of_row _ _ _ _ _ _ hbx3]; rfl
      have b2 : w3.cell? ⟨w.heap.size, 2, none⟩ = some (.string F) := by rw [cell_of_row _ _ _ _ _ _ hbx3]; rfl
      have b3 : w3.cell? ⟨w.heap.size, 3, none⟩ = some (.slice A l.length c) := by rw [cell_of_row _ _ _ _ _ _ hbx3]; rfl
      have hs3 : w.heap.size < w3.heap.size := (Array.getElem?_eq_some_iff.1 hbx3).1
      have HBW3 := Lib.hid (HBW2.out.trans (hb3.mono (by omega)))
      have hn0 : l.length ≤ maxLen := Nat.le_trans hnc hc
      have hn4 : y4.length ≤ maxLen := Nat.le_trans hc4 hm4
      have HSA := Lib.hid (show ∀ (W : World), Below w3.heap.size w3 W → Calls Tryz.prog 135 #[.slice A4 y4.length c4, .slice A l.length c] W fun e w' => e = .returned (.bool (sameL y4 l)) ∧ Same W w' from fun W hW =>
        sames3 W w3.heap.size y4.length c4 l.length c A4 A y4 l (hst4.below hW (Nat.le_refl _)) ((HR2.out.below (hb3.mono (show w.heap.size ≤ w2.heap.size by omega)) (Nat.le_refl _)).below (hW.mono (show w.heap.size ≤ w3.heap.size by omega)) (Nat.le_refl _) |>.more (by omega)) hn4 hn0)
      clear hbx3 hb3 ho4 hst4 hk
      rcases Bool.eq_false_or_eq_true (y1.toList == L.toList) with g1 | g1
      · rcases Bool.eq_false_or_eq_true (y2.toList == M.toList) with g2 | g2
        · rcases Bool.eq_false_or_eq_true (y3.toList == F.toList) with g3 | g3
          · have G := Lib.hid (show backB L M F l kp = sameL y4 l by rw [HBK.out]; have e1 : eqs y1 L = true := g1; have e2 : eqs y2 M = true := g2; have e3 : eqs y3 F = true := g3; rw [e1, e2, e3]; rfl)
            go_wp2_with (go_at_call 135; refine Calls.mono (HSA.out _ (by exact (Below.refl _ _).alloc (Nat.le_refl _) _)) ?_; rintro e w5 ⟨rfl, m5, rfl⟩)
            go_ret
            exact ⟨ret_bool (by unfold svB; rw [HFB.out, Int.toNat_natCast, G.out]; rfl), below_drewN (HBW3.out.alloc (by omega) _) m5⟩
          · have G := Lib.hid (show backB L M F l kp = false by rw [HBK.out]; have e1 : eqs y1 L = true := g1; have e2 : eqs y2 M = true := g2; have e3 : eqs y3 F = false := g3; rw [e1, e2, e3]; rfl)
            go_wp2
            go_ret
            exact ⟨ret_bool (by unfold svB; rw [HFB.out, Int.toNat_natCast, G.out]; rfl), HBW3.out.alloc (by omega) _⟩
        · have G := Lib.hid (show backB L M F l kp = false by rw [HBK.out]; have e1 : eqs y1 L = true := g1; have e2 : eqs y2 M = false := g2; rw [e1, e2]; rfl)
          go_wp2
          go_ret
          exact ⟨ret_bool (by unfold svB; rw [HFB.out, Int.toNat_natCast, G.out]; rfl), HBW3.out.alloc (by omega) _⟩
      · have G := Lib.hid (show backB L M F l kp = false by rw [HBK.out]; have e1 : eqs y1 L = false := g1; rw [e1]; rfl)
        go_wp2
        go_ret
        exact ⟨ret_bool (by unfold svB; rw [HFB.out, Int.toNat_natCast, G.out]; rfl), HBW3.out.alloc (by omega) _⟩
    · have hkf : keysB (hsOf L M F l kp) = false := by
        rcases hno with h | h
        · exact h
        · have : inB (kp : Int) 0 5 = true := by unfold inB; exact decide_eq_true ⟨by omega, by omega⟩
          rw [this] at h; cases h
      have G := Lib.hid (show backB L M F l kp = false by unfold backB; rw [hkf]; rfl)
      have hs3 : w2.heap.size ≤ w3.heap.size := hb3.size
      have HBW3 := Lib.hid (HBW2.out.trans (hb3.mono (by omega)))
      clear hkf hno hb3
      go_wp2
      go_ret
      exact ⟨ret_bool (by unfold svB; rw [HFB.out, Int.toNat_natCast, G.out]; rfl), HBW3.out.alloc (by omega) _⟩
  · rw [hfo] at HFO
    have HFB := Lib.hid hfo
    clear hfo
    go_enter Tryz.func120, Tryz.ntmps120
    go_wp2_with (go_at_call 160; refine (HFO.out _).mono ?_; rintro e w1 ⟨rfl, hb1⟩)
    go_ret
    exact ⟨ret_bool (by unfold svB; rw [HFB.out]; rfl), ((Below.refl _ _).alloc (Nat.le_refl _) _).trans (hb1.mono (by simp))⟩

end Go.Proofs.YtfhpkcamigkmdaaGreatDoor.W
namespace Go.Proofs.YtfhpkcamigkmdaaGreatDoor.W
open Go.RowKit K

theorem keyB_of {s : List UInt8} (h : T.isKey s) : keyB (ba s) = true := by
  unfold keyB
  have e : (ba s).size = s.length := by rw [← len_L, ba_l]
  have e2 : (ba s).data.toList = s := by rw [← ByteArray.toList_eq, ba_l]
  rw [e, e2]
  simp only [Bool.and_eq_true, decide_eq_true_eq, List.all_eq_true]
  refine ⟨h.1, fun c hc => ?_⟩
  have := h.2 c hc
  unfold letterB
  simp only [Bool.and_eq_true, decide_eq_true_eq]
  exact this
theorem keysB_of {ks : List T.Str} (h : T.KeyL ks) (hn : ks.length ≤ 24) : keysB (ks.map ba) = true := by
  rw [keys_iff]
  refine ⟨by rw [List.length_map]; exact hn, fun x hx => ?_, ?_⟩
  · obtain ⟨s, hs, rfl⟩ := List.mem_map.mp hx
    exact keyB_of (h.key s hs)
  · unfold asc
    rw [List.pairwise_map]
    have ha : ks.Pairwise (· < ·) := h.asc
    exact ha.imp fun {a b} hab => lt_iff.mpr (by rw [ba_l, ba_l]; exact hab)
theorem map_ba_l {r : List T.Str} {l : List ByteArray} (h : r.map ba = l) : r = l.map (·.toList) := by
  rw [← h, List.map_map]
  have : ∀ y ∈ r, ((fun z : ByteArray => z.toList) ∘ ba) y = id y := fun y _ => ba_l y
  rw [List.map_congr_left this, List.map_id]
/-- a filter that is one is one in mathematics -/
theorem svB_is {L M F : ByteArray} {l : List ByteArray} {kp : Nat} (h : svB L M F l kp = true) : T.isSv (svOf L M F l kp) := by
  unfold svB at h
  rw [Int.toNat_natCast, Bool.and_eq_true] at h
  obtain ⟨hf, hb⟩ := h
  have hp := form_parts hf
  unfold backB at hb
  simp only [Bool.and_eq_true] at hb
  obtain ⟨hk, h1, h2, h3, h4⟩ := hb
  have hkl := keyL_of hk
  rw [ls_hs] at hkl
  have hn := (keys_iff.mp hk).1
  unfold hsOf at hn
  rw [List.length_map] at hn
  refine ⟨hkl, hn, by show kp ≤ 5; omega, ?_⟩
  have e1 := eqs_iff.mp h1
  have e2 := eqs_iff.mp h2
  have e3 := eqs_iff.mp h3
  have e4 := map_ba_l (sameL_iff.mp h4)
  show svOf L M F l kp = T.sieve kp (svOf L M F l kp).heads
  have f1 : L.toList = (T.sieve kp (svOf L M F l kp).heads).letters := by rw [← ba_l (T.sieve kp (svOf L M F l kp).heads).letters, e1]
  have f2 : M.toList = (T.sieve kp (svOf L M F l kp).heads).more := by rw [← ba_l (T.sieve kp (svOf L M F l kp).heads).more, e2]
  have f3 : F.toList = (T.sieve kp (svOf L M F l kp).heads).first := by rw [← ba_l (T.sieve kp (svOf L M F l kp).heads).first, e3]
  have f5 : kp = (T.sieve kp (svOf L M F l kp).heads).keep := rfl
  generalize T.sieve kp (svOf L M F l kp).heads = S at f1 f2 f3 e4 f5
  unfold svOf
  rw [f1, f2, f3, ← e4]
  cases S
  simp only at f5
  rw [f5]

end Go.Proofs.YtfhpkcamigkmdaaGreatDoor.W
namespace Go.Proofs.YtfhpkcamigkmdaaGreatDoor.W
open Go.RowKit K

/-- a slice of bools of the call's own -/
def OwnB (w : World) (base : Nat) (v : Value) (l : List Bool) : Prop := w.ownsRow base 4 1 v l.length (l.map Value.bool)
theorem OwnB.lt {w : World} {base : Nat} {v : Value} {l : List Bool} (h : OwnB w base v l) {k : Nat} (hk : v.ownBlock = some k) : base ≤ k ∧ k < w.heap.size := World.ownsRow.lt h k hk
theorem OwnB.below {w w' : World} {base : Nat} {v : Value} {l : List Bool} (h : OwnB w base v l) (hb : Below w.heap.size w w') : OwnB w' base v l :=
  h.kept (row := none) ⟨hb.os, hb.tape, hb.output, hb.size, fun k hk _ => hb.block k hk⟩ (by cases v.ownBlock <;> simp)
theorem OwnB.alloc {w : World} {base : Nat} {v : Value} {l : List Bool} (h : OwnB w base v l) (o : Obj) : OwnB (w.alloc o) base v l := World.ownsRow.alloc h o
theorem OwnB.emptyAt (w : World) (base g : Nat) (hg : g = w.heap.size) (hb : base ≤ g) : OwnB (w.alloc (.cells #[] 4)) base (.slice (some ⟨g, 0, none⟩) 0 0) [] := by
  subst hg
  exact World.ownsRow_made w #[] 0 hb (by unfold maxLen; omega) rfl
theorem OwnB.heap {w w' : World} {base : Nat} {v : Value} {l : List Bool} (h : OwnB w base v l) (hh : w'.heap = w.heap) : OwnB w' base v l := by
  unfold OwnB World.ownsRow at *
  rw [hh]; exact h
theorem bool_info : (Tryz.prog.info? 4).map (fun i => (i.zero, i.size, i.bytes)) = some (some (.bool false), 1, 1) := by kernel_rfl
theorem Grew.blockB {w w' : World} {v v' : Value} {base : Nat} {l : List Bool} {o : Obj} (h : Grew (w.alloc o) w' v v') (ho : OwnB w base v l) : w'.heap[w.heap.size]? = some o := by
  rw [h.grown.block _ (by simp) (fun e => by have := (ho.lt e.symm).2; omega)]
  exact heap_alloc_new _ _
theorem Grew.belowB {w w' : World} {v v' : Value} {base : Nat} {l : List Bool} (h : Grew w w' v v') (ho : OwnB w base v l) (hb : base ≤ w.heap.size) : Below base w w' :=
  (Below.refl base w).grown h.grown hb fun _ hk => (ho.lt hk).1

/-- append of one bool -/
theorem app_bool {ops : Array Oper} {rest : List Oper} {o : Oper} {a : Act} {Q : Exit → Act → World → Prop} (hgd : o.guard = none) (s x : Operand)
    (ho : o.op = .call { callee := .builtin .append, args := #[s, x], argTypes := #[138, 138] })
    (w : World) (base : Nat) (v : Value) (l : List Bool) (hs : a.eval s = v) (hown : OwnB w base v l) (b cc : Nat) (k : Bool)
    (hx : a.eval x = .slice (some ⟨b, 0, none⟩) 1 cc) (hcell : w.cell? ⟨b, 0, none⟩ = some (.bool k)) (hl : l.length ≤ 4398046511104) (hbase : base ≤ w.heap.size)
    (h : ∀ g cap w', OwnB w' base (.slice (some ⟨g, 0, none⟩) (l.length + 1) cap) (l ++ [k]) → Grew w w' v (.slice (some ⟨g, 0, none⟩) (l.length + 1) cap) →
      wpList Tryz.prog ops Q rest (a.put o.dst (.slice (some ⟨g, 0, none⟩) (l.length + 1) cap)) w') : wpList Tryz.prog ops Q (o :: rest) a w := by
  obtain ⟨i0, hi, hz0, hz1, hz2⟩ := info_parts bool_info
  refine wpList_append_lies w hgd s x _ ho base _ i0 (.bool false) 1 1 Tryz.underlying138 hi hz0 hz1 hz2 rfl (by decide) v l.length (l.map Value.bool) hs hown ⟨b, 0, none⟩ 1 cc [.bool k] hx rfl ?_ ?_ (by decide) ?_ ?_ hbase _ rfl ?_
  · intro j u hj
    match j, hj with
    | 0, hj => simp at hj; subst hj; simpa [Addr.add] using hcell
  · intro u hu; simp at hu; subst hu; rfl
  · unfold maxLen; omega
  · omega
  · intro g cap w' h2 h3 h4 _
    refine h g cap w' ?_ ⟨h3, fun j hj => ?_⟩
    · unfold OwnB
      rw [List.length_append, List.map_append]
      exact h2
    · have e : g = j := by simpa [Value.ownBlock] using hj
      subst e
      rcases h4 with h4 | h4
      · exact .inr h4
      · exact .inl (by omega)

/-- the keys behind a branch -/
def wl (n : Nat) (f : T.Fork) (b : T.Br) : List (T.Str × Nat) := if T.goes b = true then T.leaves n ⟨b.2, f.deep + 1⟩ else b.2.map fun k => (k, f.deep + 1)
theorem wl_all (n : Nat) (f : T.Fork) : T.leaves (n + 1) f = (T.bs f).flatMap (wl n f) := rfl
theorem wl_take {n : Nat} {f : T.Fork} {p : Nat} {b : T.Br} (hb : (T.bs f)[p]? = some b) : ((T.bs f).take (p + 1)).flatMap (wl n f) = ((T.bs f).take p).flatMap (wl n f) ++ wl n f b := by
  rw [List.take_add_one, hb, List.flatMap_append]
  congr 1
  simp
theorem wl_le {n : Nat} {f : T.Fork} (p : Nat) : (((T.bs f).take p).flatMap (wl n f)).length ≤ (T.leaves (n + 1) f).length := by
  rw [wl_all]
  have e : (T.bs f).flatMap (wl n f) = ((T.bs f).take p).flatMap (wl n f) ++ ((T.bs f).drop p).flatMap (wl n f) := by rw [← List.flatMap_append, List.take_append_drop]
  rw [e, List.length_append]
  omega
/-- what l3Wholes answers -/
def WhR (w : World) (base : Nat) (v : Value) (l : List Bool) (e : Ending) (w' : World) : Prop := ∃ v', e = .returned v' ∧ OwnB w' base v' l ∧ Grew w w' v v'
/-- ones ahead of a place -/
def M_ones (M_ : ByteArray) (k : Nat) : Nat := Go.Proofs.YtfhpkcamigkmdaaGreatDoor.M.ones (M_.toList.take k)
/-- at the loop's head -/
def WhP (w : World) (gh kp st n : Nat) (f : T.Fork) (base : Nat) (v : Value) (acc : List Bool) (o : Obj) (out i : Value) (wr : World) : Prop :=
  ∃ p k : Nat, (T.bs f).length - p ≤ gh ∧ p ≤ (T.bs f).length ∧ k = st + p ∧ i = .int .i64 (k : Nat) ∧ OwnB wr base out (acc ++ (((T.bs f).take p).flatMap (wl n f)).map (T.wholeK kp)) ∧ Grew (w.alloc o) wr v out

/-- what is read at a branch -/
theorem at_branch {L M F : ByteArray} {l : List ByteArray} {kp : Nat} {N : List T.Fork} (hsv : svOf L M F l kp = T.enc kp N) {j p : Nat} {f : T.Fork} {b : T.Br} (hj : N[j]? = some f) (hp : (T.bs f)[p]? = some b) :
    ∃ (h1 : T.start N j + p < L.size) (h2 : T.start N j + p < M.size), L[T.start N j + p] = b.1 ∧ M[T.start N j + p] = T.bit (T.goes b) := by
  obtain ⟨hm, hl⟩ := T.more_at N j p f b hj hp
  have e1 : L.toList = T.letters N := congrArg T.Sv.letters hsv
  have e2 : M.toList = T.more N := congrArg T.Sv.more hsv
  rw [← e1] at hl
  rw [← e2] at hm
  have h1 : T.start N j + p < L.size := by rw [← len_L]; exact (List.getElem?_eq_some_iff.mp hl).1
  have h2 : T.start N j + p < M.size := by rw [← len_L]; exact (List.getElem?_eq_some_iff.mp hm).1
  refine ⟨h1, h2, ?_, ?_⟩
  · have := at_L L _ h1
    rw [List.getD_eq_getElem?_getD, hl] at this
    exact this.symm
  · have := at_L M _ h2
    rw [List.getD_eq_getElem?_getD, hm] at this
    exact this.symm

set_option maxRecDepth 8000 in
set_option maxHeartbeats 4000000 in
theorem wholesS (L M F : ByteArray) (A : Option Addr) (n0 c : Nat) (l : List ByteArray) (kp : Nat) (B : Nat) (N : List T.Fork) (Tr : T.Tree N) (hsv : svOf L M F l kp = T.enc kp N) (hLM : M.size = L.size) (hF : F.size = L.size) (hL : L.size ≤ 400) (hn : n0 ≤ 1000) :
    ∀ (n j : Nat) (f : T.Fork) (w : World) (base : Nat) (v : Value) (acc : List Bool), N[j]? = some f → 6 - f.deep ≤ n → Strs w B A n0 l → B ≤ base → base ≤ w.heap.size → OwnB w base v acc → acc.length + (T.leaves n f).length ≤ 4000 →
      Calls Tryz.prog 123 #[.agg #[.string L, .string M, .string F, .slice A n0 c, .int .i64 kp], .int .i64 (T.start N j : Nat), .int .i64 (T.start N (j + 1) : Nat), v] w
        (WhR w base v (acc ++ (T.leaves n f).map (T.wholeK kp))) := by
  intro n
  induction n with
  | zero =>
    intro j f w base v acc hj hd
    have := (Tr.wf f (List.mem_of_getElem? hj)).2
    omega
  | succ n ih =>
    intro j f w base v acc hj hd hr hB hbase hown hcap
    have hlen := hr.len
    subst hlen
    have IH := Lib.hid ih
    have HR := Lib.hid hr
    have HO0 := Lib.hid hown
    have HJ := Lib.hid hj
    have HSV := Lib.hid hsv
    have HT := Lib.hid Tr
    have hst := T.start_mono N j f hj
    have hjl : j < N.length := (List.getElem?_eq_some_iff.mp hj).1
    have htot : T.start N (j + 1) ≤ L.size := by
      have h1 := T.start_le N (show j + 1 ≤ N.length by omega) (Nat.le_refl _)
      have e1 : L.toList = T.letters N := congrArg T.Sv.letters hsv
      rw [← T.len_letters, ← e1, len_L] at h1
      exact h1
    obtain ⟨st, hste⟩ : ∃ st, st = T.start N j := ⟨_, rfl⟩
    obtain ⟨se, hsee⟩ : ∃ se, se = T.start N (j + 1) := ⟨_, rfl⟩
    rw [← hste] at hst ⊢
    rw [← hsee] at hst htot ⊢
    have HST := Lib.hid hste
    have HSE := Lib.hid hst
    clear ih hr hown hj hsv hste hsee Tr hst
    go_enter Tryz.func123, Tryz.ntmps123
    go_wp2
    go_loopg [3, 9] (T.bs f).length (fun gh out i wr => WhP w gh kp st n f base v acc (Obj.cells #[.string L, .string M, .string F, .slice A l.length c, .int .i64 kp] 92) out i wr)
    case atStart => exact ⟨0, st, by omega, Nat.zero_le _, rfl, rfl, by simpa using HO0.out.alloc _, Grew.refl _ _⟩
    case round =>
      obtain ⟨p, k, hgh, hp, hk, rfl, ho, hg⟩ := hrel
      obtain ⟨ac2, hac⟩ : ∃ ac2, ac2 = acc ++ (((T.bs f).take p).flatMap (wl n f)).map (T.wholeK kp) := ⟨_, rfl⟩
      rw [← hac] at ho
      have hacl : ac2.length = acc.length + (((T.bs f).take p).flatMap (wl n f)).length := by rw [hac, List.length_append, List.length_map]
      have HAC := Lib.hid hac
      have HACL := Lib.hid hacl
      clear hac hacl
      have HO := Lib.hid ho
      have HG := Lib.hid hg
      have hblk := hg.blockB HO0.out
      have hb0 : wr.cell? ⟨w.heap.size, 0, none⟩ = some (.string L) := by rw [cell_of_row _ _ _ _ _ _ hblk]; rfl
      have hb1 : wr.cell? ⟨w.heap.size, 1, none⟩ = some (.string M) := by rw [cell_of_row _ _ _ _ _ _ hblk]; rfl
      have hb2 : wr.cell? ⟨w.heap.size, 2, none⟩ = some (.string F) := by rw [cell_of_row _ _ _ _ _ _ hblk]; rfl
      have hb3 : wr.cell? ⟨w.heap.size, 3, none⟩ = some (.slice A l.length c) := by rw [cell_of_row _ _ _ _ _ _ hblk]; rfl
      have hb4 : wr.cell? ⟨w.heap.size, 4, none⟩ = some (.int .i64 kp) := by rw [cell_of_row _ _ _ _ _ _ hblk]; rfl
      have hpl := wl_le (n := n) (f := f) p
      have HPL := Lib.hid hpl
      clear ho hg hblk
      have hkS : k ≤ se := by have := HSE.out; omega
      have hk4 : k ≤ 400 := by omega
      by_cases hlt : p < (T.bs f).length
      · have hb : (T.bs f)[p]? = some (T.bs f)[p] := List.getElem?_eq_getElem hlt
        generalize hbb : (T.bs f)[p] = b at hb
        have HBR := Lib.hid hb
        have hkl : k < se := by have := HSE.out; omega
        obtain ⟨h1, h2, e1, e2⟩ := at_branch HSV.out HJ.out hb
        rw [← HST.out] at h1 h2
        have hk1 : k < L.size := by omega
        have hk2 : k < M.size := by omega
        have e1' : L[k] = b.1 := by rw [← e1]; congr 1; rw [hk, HST.out]
        have e2' : M[k] = T.bit (T.goes b) := by rw [← e2]; congr 1; rw [hk, HST.out]
        have hM8 := (M[k]).toNat_lt
        have h1' : (k : Int) < (se : Int) := by omega
        have h2' : (k : Int) < (L.size : Int) := by omega
        have h3' : (k : Int) < (M.size : Int) := by omega
        have hwt := wl_take (n := n) hb
        have hpl2 := wl_le (n := n) (f := f) (p + 1)
        rw [hwt, List.length_append] at hpl2
        have HWT := Lib.hid hwt
        have E1 := Lib.hid e1'
        have HK := Lib.hid hk
        clear hwt e1 e2 h1 h2 e1' hk hb hbb
        rcases Bool.eq_false_or_eq_true (T.goes b) with hgo | hgo
        · have h49 : (M[k].toNat : Int) = 49 := by rw [e2', hgo]; rfl
          have h49n : ((M[k].toNat : Int) == 49) = true := by simp [h49]
          have HGO := Lib.hid hgo
          clear e2' hgo h49
          obtain ⟨cN, hcN, hjc, hkids⟩ := HT.out.kids kp HJ.out HBR.out HGO.out
          rw [← HST.out, ← HK.out, ← HSV.out] at hkids
          have HKI := Lib.hid hkids
          have HCN := Lib.hid hcN
          clear hkids hcN
          go_wp2_with fail
          go_at_call 162
          refine (kidsS L M F A l.length c kp k wr (by omega) (by omega) (by omega)).mono ?_
          rintro e w2 ⟨rfl, hbel⟩
          rw [(kids_sv L M F l kp k).1, (kids_sv L M F l kp k).2, HKI.out]
          have HG2 := Lib.hid (HG.out.trans (Grew.of_below hbel u3))
          have HO2 := Lib.hid (HO.out.below hbel)
          have hblk2 := HG2.out.blockB HO0.out
          clear hb0 hb1 hb2 hb3 hb4
          have hb0 : w2.cell? ⟨w.heap.size, 0, none⟩ = some (.string L) := by rw [cell_of_row _ _ _ _ _ _ hblk2]; rfl
          have hb1 : w2.cell? ⟨w.heap.size, 1, none⟩ = some (.string M) := by rw [cell_of_row _ _ _ _ _ _ hblk2]; rfl
          have hb2 : w2.cell? ⟨w.heap.size, 2, none⟩ = some (.string F) := by rw [cell_of_row _ _ _ _ _ _ hblk2]; rfl
          have hb3 : w2.cell? ⟨w.heap.size, 3, none⟩ = some (.slice A l.length c) := by rw [cell_of_row _ _ _ _ _ _ hblk2]; rfl
          have hb4 : w2.cell? ⟨w.heap.size, 4, none⟩ = some (.int .i64 kp) := by rw [cell_of_row _ _ _ _ _ _ hblk2]; rfl
          have hbw := HG2.out.from.belowB HO0.out hbase
          have hsz2 : base ≤ w2.heap.size := Nat.le_trans hbase hbw.size
          have HS2 := Lib.hid (HR.out.below hbw hB)
          clear hblk2 hbel hbw
          have hwl : wl n f b = T.leaves n ⟨b.2, f.deep + 1⟩ := by unfold wl; rw [if_pos HGO.out]
          rw [hwl] at hpl2
          have HWL := Lib.hid hwl
          have hcp : ac2.length + (T.leaves n ⟨b.2, f.deep + 1⟩).length ≤ 4000 := by have := HACL.out; omega
          have HCP := Lib.hid hcp
          clear hwl hcp
          go_wp2_with fail
          go_at_call 123
          refine (IH.out cN ⟨b.2, f.deep + 1⟩ w2 base u3 _ HCN.out (by show 6 - (f.deep + 1) ≤ n; omega) HS2.out hB hsz2 HO2.out HCP.out).mono ?_
          rintro e w3 ⟨v3, rfl, ho3, hg3⟩
          have HO3 := Lib.hid ho3
          have HG3 := Lib.hid hg3
          clear ho3 hg3
          go_wp2
          go_roundg ((T.bs f).length - (p + 1))
          case rel => exact ⟨p + 1, k + 1, Nat.le_refl _, by omega, by have := HK.out; omega, by go_num, by rw [HWT.out, List.map_append, ← List.append_assoc, HWL.out, ← HAC.out]; exact HO3.out, HG2.out.trans HG3.out⟩
          case measure => omega
        · have h49 : (M[k].toNat : Int) = 48 := by rw [e2', hgo]; rfl
          have h49n : ((M[k].toNat : Int) == 49) = false := by simp [h49]
          have HGO := Lib.hid hgo
          clear e2' hgo h49
          obtain ⟨x, hx, -, -, hrest⟩ := T.leaf_at HT.out kp HJ.out HBR.out HGO.out
          rw [← HST.out, ← HK.out] at hrest
          have er : l.map (·.toList) = T.rests kp N := congrArg T.Sv.rests HSV.out
          have em : M.toList = T.more N := congrArg T.Sv.more HSV.out
          rw [← er, ← em] at hrest
          obtain ⟨q, hq⟩ : ∃ q : Nat, (q : Int) = k - cntI M k := ⟨(k - cntI M k).toNat, by have := cntI_bd M k; omega⟩
          have hqe : k - M_ones M k = q := by
            have : cntI M k = (M_ones M k : Nat) := by unfold cntI M_ones; rw [ones_M]
            rw [this] at hq
            omega
          have hrest' : (l.map (·.toList))[q]? = some (T.restOf x (f.deep + 1) kp) := by rw [← hqe]; exact hrest
          rw [List.getElem?_map] at hrest'
          have hql : q < l.length := by
            rcases Nat.lt_or_ge q l.length with h | h
            · exact h
            · rw [List.getElem?_eq_none h] at hrest'; simp at hrest'
          rw [List.getElem?_eq_getElem hql] at hrest'
          have hlq : l[q].toList = T.restOf x (f.deep + 1) kp := by simpa using hrest'
          have hwf := (HT.out.wf f (List.mem_of_getElem? HJ.out)).1
          have hwa := T.whole_at hwf (List.mem_of_getElem? HBR.out) hx kp
          have hval : (decide (L[k].toNat = 45) || decide ((l[q].size : Int) < kp)) = T.wholeK kp (x, f.deep + 1) := by
            rw [Bool.eq_iff_iff, ← hwa, ← hlq, len_L]
            have e1 := E1.out
            simp only [Bool.or_eq_true, decide_eq_true_eq]
            constructor
            · rintro (h | h)
              · left
                rw [← e1]
                exact UInt8.toNat_inj.mp (by show L[k].toNat = 45; exact h)
              · right; omega
            · rintro (h | h)
              · left
                rw [e1, h]; rfl
              · right; omega
          have hwl : wl n f b = [(x, f.deep + 1)] := by unfold wl; rw [if_neg (by rw [HGO.out]; simp), hx]; rfl
          have HWL := Lib.hid hwl
          have hbw := HG.out.from.belowB HO0.out hbase
          have hsz2 : base ≤ wr.heap.size := Nat.le_trans hbase hbw.size
          have HWH := Lib.hid (show Calls Tryz.prog 130 #[.agg #[.string L, .string M, .string F, .slice A l.length c, .int .i64 kp], .int .i64 k] wr fun e w' => e = .returned (.bool (T.wholeK kp (x, f.deep + 1))) ∧ Below wr.heap.size wr w' from by
            have hh := wholeS L M F A l.length c kp k q B l wr (by omega) (by omega) (by omega) (HR.out.below hbw hB) (by omega) (by omega) hq hql
            rw [hval] at hh; exact hh)
          obtain ⟨bb, hbb⟩ : ∃ bb, bb = T.wholeK kp (x, f.deep + 1) := ⟨_, rfl⟩
          rw [← hbb] at HWH
          have HBB := Lib.hid hbb
          have hln : ac2.length ≤ 4000 := by have := HACL.out; omega
          clear hq hqe hrest hrest' hlq hwa hval hwl hbw hbb er em hx
          go_wp2_with fail
          go_at_call 130
          refine HWH.out.mono ?_
          rintro e w2 ⟨rfl, hbel⟩
          have HG2 := Lib.hid (HG.out.trans (Grew.of_below hbel u3))
          have HO2 := Lib.hid (HO.out.below hbel)
          have hsz3 : base ≤ w2.heap.size := Nat.le_trans hsz2 hbel.size
          clear hbel hb0 hb1 hb2 hb3 hb4
          go_wp2_with (at_builtin; refine app_bool rfl (.tmp 41) (.tmp 45) rfl _ base _ _ rfl (HO2.out.alloc _) w2.heap.size 1 bb rfl (cell_new _ _ _) (by omega) (le_alloc hsz3 _) ?_; intro g cap w3 ho3 hg3; have HO3 := Lib.hid ho3; have HG3 := Lib.hid hg3; clear ho3 hg3)
          go_roundg ((T.bs f).length - (p + 1))
          case rel => exact ⟨p + 1, k + 1, Nat.le_refl _, by omega, by have := HK.out; omega, by go_num, by rw [HWT.out, List.map_append, ← List.append_assoc, HWL.out, List.map_cons, List.map_nil, ← HBB.out, ← HAC.out]; exact HO3.out, (HG2.out.alloc _).trans HG3.out⟩
          case measure => omega
      · have hpe : p = (T.bs f).length := by omega
        have h1' : ¬ (k : Int) < (se : Int) := by have := HSE.out; omega
        have hall : acc ++ (((T.bs f).take p).flatMap (wl n f)).map (T.wholeK kp) = acc ++ (T.leaves (n + 1) f).map (T.wholeK kp) := by
          rw [hpe, List.take_of_length_le (Nat.le_refl _)]; rfl
        rw [HAC.out, hall] at HO
        clear hall hpl
        go_wp2
        go_ret
        exact ⟨_, rfl, HO.out, HG.out.from⟩

end Go.Proofs.YtfhpkcamigkmdaaGreatDoor.W
namespace Go.Proofs.YtfhpkcamigkmdaaGreatDoor.W
open Go.RowKit K

/-- a slice of n bools reads as l, below block B -/
structure Bools (w : World) (B : Nat) (A : Option Addr) (n : Nat) (l : List Bool) : Prop where
  len : l.length = n
  cell : ∀ i (h : i < l.length), ∃ b off : Nat, A = some ⟨b, off, none⟩ ∧ b < B ∧ w.cell? ⟨b, off + i, none⟩ = some (.bool l[i])
theorem OwnB.parts {w : World} {base : Nat} {v : Value} {l : List Bool} (h : OwnB w base v l) :
    ∃ (A : Option Addr) (c : Nat), v = .slice A l.length c ∧ l.length ≤ c ∧ c ≤ maxLen ∧ Bools w w.heap.size A l.length l := by
  rcases h.2 with ⟨rfl, h0⟩ | ⟨g, cap, cur, rfl, hb, hg, hc, hm, hs, ht⟩
  · have : l = [] := List.eq_nil_of_length_eq_zero h0
    subst this
    exact ⟨none, 0, rfl, Nat.le_refl _, by unfold maxLen; omega, ⟨rfl, fun i hi => absurd hi (by simp)⟩⟩
  · refine ⟨_, cap, rfl, hc, hm, ⟨rfl, fun i hi => ?_⟩⟩
    refine ⟨g, 0, rfl, (Array.getElem?_eq_some_iff.1 hg).1, ?_⟩
    have := h.cells (g := g) rfl i (.bool l[i]) (by rw [List.getElem?_map, List.getElem?_eq_getElem hi]; rfl)
    have hadd : (⟨g, 0, none⟩ : Addr).add i = ⟨g, 0 + i, none⟩ := by unfold Addr.add; split <;> simp_all
    rw [hadd] at this
    exact this

/-- a kept part may not be ahead -/
def nearP (f : ByteArray) (x : ByteArray × Bool) : Bool := !lt x.1 f || (!x.2 && begB f x.1)
/-- the number of the first such -/
def behI (hs : List ByteArray) (ws : List Bool) (f : ByteArray) : Nat := (hs.zip ws).findIdx (nearP f)

set_option maxHeartbeats 1000000 in
theorem behindS (w : World) (B n c n2 c2 : Nat) (A A2 : Option Addr) (hs : List ByteArray) (ws : List Bool) (f : ByteArray) (hr : Strs w B A n hs) (hr2 : Bools w B A2 n2 ws) (hn : n ≤ maxLen) (hl : ws.length = hs.length) :
    Calls Tryz.prog 122 #[.slice A n c, .slice A2 n2 c2, .string f] w fun e w' => e = .returned (.int .i64 (behI hs ws f : Nat)) ∧ w = w' := by
  have hlen := hr.len
  subst hlen
  have hlen2 := hr2.len
  subst hlen2
  unfold maxLen at hn
  have HR := Lib.hid hr
  have HR2 := Lib.hid hr2
  have HL := Lib.hid hl
  have hz : (hs.zip ws).length = hs.length := by rw [List.length_zip]; omega
  have HZ := Lib.hid hz
  clear hr hr2 hz
  go_enter Tryz.func122, Tryz.ntmps122
  go_wp2
  go_loop [7] (fun i => ∃ k : Nat, k ≤ hs.length ∧ i = .int .i64 k ∧ Hid (∀ j (h : j < (hs.zip ws).length), j < k → nearP f (hs.zip ws)[j] = false)) (fun i => hs.length - (intOf i).toNat)
  case atStart => exact ⟨0, Nat.zero_le _, rfl, Lib.hid fun j _ h => absurd h (by omega)⟩
  case round =>
    obtain ⟨k, hk, rfl, HA⟩ := hrel
    by_cases hlt : k < hs.length
    · have hlt2 : k < ws.length := by omega
      obtain ⟨b, off, hA, hb, hc⟩ := HR.out.cell k hlt
      subst hA
      obtain ⟨b2, off2, hA2, hb2, hc2⟩ := HR2.out.cell k hlt2
      subst hA2
      have hzk : k < (hs.zip ws).length := by rw [HZ.out]; exact hlt
      have hget : (hs.zip ws)[k] = (hs[k], ws[k]) := by rw [List.getElem_zip]
      have HZK := Lib.hid (show nearP f (hs.zip ws)[k] = (!lt hs[k] f || (!ws[k] && begB f hs[k])) by rw [hget]; rfl)
      have hx1 : (k : Int) < (ws.length : Int) := by omega
      clear hget hl
      have HHIT := Lib.hid (show nearP f (hs.zip ws)[k] = true → behI hs ws f = k from fun h => (List.findIdx_eq hzk).mpr ⟨h, fun j hj => HA.out j (by omega) hj⟩)
      have HNXT := Lib.hid (show nearP f (hs.zip ws)[k] = false → ∀ j (h : j < (hs.zip ws).length), j < k + 1 → nearP f (hs.zip ws)[j] = false from fun h j hj hjk => by
        rcases (by omega : j < k ∨ j = k) with e | e
        · exact HA.out j hj e
        · subst e; exact h)
      rcases Bool.eq_false_or_eq_true (Op.bytesLess hs[k].toList f.toList) with he | he
      · have e1 : lt hs[k] f = true := he
        rcases Bool.eq_false_or_eq_true ws[k] with hw | hw
        · have HF := Lib.hid (HNXT.out (by rw [HZK.out, e1, hw]; rfl))
          rw [hw] at hc2
          clear e1 hw
          go_wp2
          go_round
          case rel => exact ⟨k + 1, by omega, by go_num, HF⟩
          case measure => simp [intOf]; omega
        · rw [hw] at hc2
          rcases Bool.eq_false_or_eq_true (begB f hs[k]) with hg | hg
          · have HF := Lib.hid (HHIT.out (by rw [HZK.out, e1, hw, hg]; rfl))
            have HB := Lib.hid (show ∀ W : World, Calls Tryz.prog 131 #[.string f, .string hs[k]] W fun e w' => e = .returned (.bool true) ∧ W = w' from fun W => by have hh := begS f hs[k] W; rw [hg] at hh; exact hh)
            clear e1 hw hg
            go_wp2_with (go_at_call 131; refine (HB.out _).mono ?_; rintro e w' ⟨rfl, rfl⟩)
            go_ret
            exact ⟨by rw [HF.out]; rfl, rfl⟩
          · have HF := Lib.hid (HNXT.out (by rw [HZK.out, e1, hw, hg]; rfl))
            have HB := Lib.hid (show ∀ W : World, Calls Tryz.prog 131 #[.string f, .string hs[k]] W fun e w' => e = .returned (.bool false) ∧ W = w' from fun W => by have hh := begS f hs[k] W; rw [hg] at hh; exact hh)
            clear e1 hw hg
            go_wp2_with (go_at_call 131; refine (HB.out _).mono ?_; rintro e w' ⟨rfl, rfl⟩)
            go_round
            case rel => exact ⟨k + 1, by omega, by go_num, HF⟩
            case measure => simp [intOf]; omega
      · have HF := Lib.hid (HHIT.out (by have e1 : lt hs[k] f = false := he; rw [HZK.out, e1]; rfl))
        go_wp2
        go_ret
        exact ⟨by rw [HF.out]; rfl, rfl⟩
    · have hke : k = hs.length := by omega
      subst hke
      have HF := Lib.hid (show behI hs ws f = hs.length by
        unfold behI
        rw [← HZ.out]
        refine List.findIdx_eq_length.mpr fun x hx => ?_
        obtain ⟨i, hi, rfl⟩ := List.mem_iff_getElem.mp hx
        exact HA.out i hi (by rw [← HZ.out]; exact hi))
      go_wp2
      go_ret
      exact ⟨by rw [HF.out]; rfl, rfl⟩

end Go.Proofs.YtfhpkcamigkmdaaGreatDoor.W
namespace Go.Proofs.YtfhpkcamigkmdaaGreatDoor.T
open M
theorem sel_one {keys : List Str} (h : KeyL keys) (hne : keys ≠ []) (keep : Nat) : (sieve keep keys).sel 1 = start (forks keys) 1 := by
  obtain ⟨Tr, h0⟩ := tree_of h hne
  have e2 : nodes (loads [⟨keys, 0⟩]) [⟨keys, 0⟩] = forks keys := rfl
  rw [e2] at Tr h0
  show ((oneIdx (firsts (forks keys)) 1).getD (firsts (forks keys)).length) = start (forks keys) 1
  have hl : 0 < (forks keys).length := (List.getElem?_eq_some_iff.mp h0).1
  rcases Nat.lt_or_ge 1 (forks keys).length with hlt | hge
  · rw [first_one _ Tr.some_ 1 hlt]; rfl
  · have hl1 : (forks keys).length = 1 := by omega
    have := first_end _ Tr.some_
    rw [hl1] at this
    rw [this, len_firsts, hl1]; rfl
theorem start_zero (N : List Fork) : start N 0 = 0 := by cases N <;> rfl
theorem sieve_nil (keep : Nat) : (sieve keep []).letters = [] := by
  have hl : loads [rootF []] = 1 := by simp [loads, rootF, load]
  have hf : forks [] = [rootF []] := by unfold forks; rw [hl]; rfl
  have hb : bs (rootF []) = [] := by unfold bs rootF; rw [brs_nil]
  unfold sieve; rw [hf]; unfold enc letters; simp [hb]
end Go.Proofs.YtfhpkcamigkmdaaGreatDoor.T
namespace Go.Proofs.YtfhpkcamigkmdaaGreatDoor.W
open Go.RowKit K

/-- of each kept part whether it is all of its key -/
def wsOf (L M F : ByteArray) (l : List ByteArray) (kp : Nat) : List Bool := (svOf L M F l kp).heads.map (T.whole kp (svOf L M F l kp).heads)

set_option maxHeartbeats 1000000 in
theorem wholes0 (L M F : ByteArray) (A : Option Addr) (n c kp : Nat) (v : Value) (w : World) :
    Calls Tryz.prog 123 #[.agg #[.string L, .string M, .string F, .slice A n c, .int .i64 kp], .int .i64 0, .int .i64 0, v] w fun e w' => e = .returned v ∧ w' = w.alloc (Obj.cells #[.string L, .string M, .string F, .slice A n c, .int .i64 kp] 92) := by
  go_enter Tryz.func123, Tryz.ntmps123
  go_wp2
  go_loopg [3, 9] 0 (fun _ out i wr => out = v ∧ i = .int .i64 0 ∧ wr = w.alloc (Obj.cells #[.string L, .string M, .string F, .slice A n c, .int .i64 kp] 92))
  case atStart => exact ⟨rfl, rfl, rfl⟩
  case round =>
    obtain ⟨rfl, rfl, rfl⟩ := hrel
    go_wp2
    go_ret
    exact ⟨rfl, rfl⟩

/-- the call of l3Wholes in SieveSeek and SieveMeets -/
theorem wholes_top {L M F : ByteArray} {l : List ByteArray} {kp : Nat} (hsv : svB L M F l kp = true) (A : Option Addr) (n c : Nat) (W : World) (B base g : Nat) (hr : Strs W B A n l) (hB : B ≤ base) (hbase : base ≤ W.heap.size) (ho : OwnB W base (.slice (some ⟨g, 0, none⟩) 0 0) []) (t : Nat) (ht : (t : Int) = oneOr F 1) :
    Calls Tryz.prog 123 #[.agg #[.string L, .string M, .string F, .slice A n c, .int .i64 kp], .int .i64 0, .int .i64 t, .slice (some ⟨g, 0, none⟩) 0 0] W (WhR W base (.slice (some ⟨g, 0, none⟩) 0 0) (wsOf L M F l kp)) := by
  have his := svB_is hsv
  obtain ⟨hK, h24, -, heq⟩ := his
  have hfo : formB L M F l.length kp = true := by unfold svB at hsv; rw [Bool.and_eq_true] at hsv; exact hsv.1
  obtain ⟨p1, p2, p3, p4, p5, p6⟩ := form_parts hfo
  have heq' : svOf L M F l kp = T.sieve kp (svOf L M F l kp).heads := heq
  have hsel : t = (svOf L M F l kp).sel 1 := by
    rw [oneOr_sel L M F l kp] at ht
    exact_mod_cast ht
  have hlen := hr.len
  by_cases hne : (svOf L M F l kp).heads = []
  · have hL0 : L.size = 0 := by
      have h1 := congrArg (fun s => s.letters.length) heq'
      simp only [hne, T.sieve_nil] at h1
      rw [← len_L]; exact h1
    have ht0 : t = 0 := by
      have := sel_le (svOf L M F l kp) 1
      rw [← hsel] at this
      have h2 : (svOf L M F l kp).first.length = F.size := len_L F
      omega
    subst ht0
    have hws : wsOf L M F l kp = [] := by unfold wsOf; rw [hne]; rfl
    rw [hws]
    refine (wholes0 L M F A n c kp _ W).mono ?_
    rintro e w' ⟨rfl, rfl⟩
    exact ⟨_, rfl, ho.alloc _, (Grew.refl _ _).alloc _⟩
  · obtain ⟨Tr, h0⟩ := T.tree_of hK hne
    have e2 : T.nodes (T.loads [⟨(svOf L M F l kp).heads, 0⟩]) [⟨(svOf L M F l kp).heads, 0⟩] = T.forks (svOf L M F l kp).heads := rfl
    rw [e2] at Tr h0
    have hst : t = T.start (T.forks (svOf L M F l kp).heads) 1 := by
      rw [hsel]
      have := T.sel_one hK hne kp
      rw [← heq'] at this
      exact this
    have hs0 := T.start_zero (T.forks (svOf L M F l kp).heads)
    have hlk : (T.leaves 6 ⟨(svOf L M F l kp).heads, 0⟩).length = (svOf L M F l kp).heads.length := by
      have := congrArg List.length (T.sepL_keys hK)
      rw [List.length_map] at this
      exact this
    have hall : (T.leaves 6 ⟨(svOf L M F l kp).heads, 0⟩).map (T.wholeK kp) = wsOf L M F l kp := T.wholes_eq hK kp
    have hh := wholesS L M F A n c l kp B (T.forks (svOf L M F l kp).heads) Tr heq' p1 p2 p3 (by omega) 6 0 ⟨(svOf L M F l kp).heads, 0⟩ W base _ [] h0 (by show 6 - 0 ≤ 6; omega) hr hB hbase ho (by rw [hlk]; simp only [List.length_nil]; omega)
    rw [hs0, Nat.zero_add, ← hst, List.nil_append, hall] at hh
    exact hh

/-- what SieveSeek answers -/
def seekO (L M F : ByteArray) (l : List ByteArray) (keep : Int) (f : ByteArray) : Option ByteArray :=
  if svB L M F l keep = true ∧ keyB f = true then (hsOf L M F l keep.toNat)[behI (hsOf L M F l keep.toNat) (wsOf L M F l keep.toNat) f]? else none
theorem ws_len (L M F : ByteArray) (l : List ByteArray) (kp : Nat) : (wsOf L M F l kp).length = (hsOf L M F l kp).length := by unfold wsOf hsOf; rw [List.length_map, List.length_map]
theorem beh_le (hs : List ByteArray) (ws : List Bool) (f : ByteArray) : behI hs ws f ≤ hs.length := by
  unfold behI
  have := List.findIdx_le_length (p := nearP f) (xs := hs.zip ws)
  rw [List.length_zip] at this
  omega
end Go.Proofs.YtfhpkcamigkmdaaGreatDoor.W
