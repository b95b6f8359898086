/-
  The program's StoreOk; the exact law of StoreOk, as a walk over the contracts.
  The runs of a tree whose filters let pass, for a filter that is known by its answers.
  A tree's runs that pass, for the closure of StoreLooks.
  Contract of the model's SieveOk, at every filter that Go can hold: is it that of what it keeps.
  What a filter is, in mathematics and in memory; contracts of the model's SieveHeads and SieveSize, at every filter that Go can hold.
  Contract of the model's l3Wholes: of each key of a fork, in order, whether all of it is kept; at every filter of a key list.
  Contract of the model's SieveSeek: the first kept part that may not be ahead; at every filter that Go can hold.
  Contract of the model's l3Walk: the branch to which a key leads, at every filter of a key list.
  Contract of the model's SieveHas, at every filter and every string that Go can hold.
-/
import Derived.Test.YtfhpkcamigkmdaaGreatDoorKB
import Derived.Test.YtfhpkcamigkmdaaGreatDoorZAT
import Derived.Test.YtfhpkcamigkmdaaGreatDoorZAO
import Derived.Deep.RegionHeld3
namespace Go.Proofs.YtfhpkcamigkmdaaGreatDoor.W
open Go.RowKit K R

theorem StM.own {w w' : World} {B : Nat} {A0 A1 A2 A5 : Option Addr} {c0 c1 c2 c5 : Nat} {s : Sto} (h : StM w B A0 A1 A2 A5 c0 c1 c2 c5 s) (hb : Below w.heap.size w w') (hB : B ≤ w.heap.size) : StM w' w'.heap.size A0 A1 A2 A5 c0 c1 c2 c5 s :=
  (h.below (hb.mono hB) (Nat.le_refl _)).more (Nat.le_trans hB hb.size)
/-- a new store reads as one -/
theorem OwnSt.reads {w : World} {base g0 g1 g2 g5 c0 c1 c2 c5 : Nat} {vs1 vs2 : List Value} {s : Sto} (h : OwnSt w base (.slice (some ⟨g0, 0, none⟩) s.top.length c0) (.slice (some ⟨g1, 0, none⟩) s.levels.length c1) (.slice (some ⟨g2, 0, none⟩) s.sieves.length c2) (.slice (some ⟨g5, 0, none⟩) s.times.length c5) vs1 vs2 s) :
    StM w w.heap.size (some ⟨g0, 0, none⟩) (some ⟨g1, 0, none⟩) (some ⟨g2, 0, none⟩) (some ⟨g5, 0, none⟩) c0 c1 c2 c5 s := by
  have cap : ∀ {E : TypeId} {sz g n c : Nat} {cs : List Value}, w.ownsRow base E sz (.slice (some ⟨g, 0, none⟩) n c) n cs → n ≤ c ∧ c ≤ maxLen := fun {E sz g n c cs} hh => by
    rcases hh.2 with ⟨hv, -⟩ | ⟨g', c', cur, hv, -, -, h1, h2, -, -⟩
    · cases hv
    · injection hv with _ _ e3
      subst e3
      exact ⟨h1, h2⟩
  exact ⟨OwnE.ents h.top rfl, h.levels.lvls, h.sieves.svs, OwnN.nums h.times rfl, cap h.top, cap h.levels.row, cap h.sieves.row, cap h.times⟩

end Go.Proofs.YtfhpkcamigkmdaaGreatDoor.W
namespace Go.Proofs.YtfhpkcamigkmdaaGreatDoor.W
open Go.RowKit K R

/-- the top and the levels that pass, of the first k -/
def vsK (v0 : Value) (A : Nat → Option Addr) (n c : Nat → Nat) (b : Nat → Bool) (k : Nat) : List Value := v0 :: ((List.range k).filter b).map fun i => .slice (A i) (n i) (c i)
theorem vsK_yes {v0 : Value} {A : Nat → Option Addr} {n c : Nat → Nat} {b : Nat → Bool} {k : Nat} (h : b k = true) : vsK v0 A n c b (k + 1) = vsK v0 A n c b k ++ [.slice (A k) (n k) (c k)] := by
  unfold vsK; rw [List.range_succ, List.filter_append, List.map_append]; simp [h]
theorem vsK_no {v0 : Value} {A : Nat → Option Addr} {n c : Nat → Nat} {b : Nat → Bool} {k : Nat} (h : b k = false) : vsK v0 A n c b (k + 1) = vsK v0 A n c b k := by
  unfold vsK; rw [List.range_succ, List.filter_append, List.map_append]; simp [h]
theorem idxG (A B : Nat → Option Addr) (n c m d : Nat → Nat) (X : Nat → Sf) (k : Nat) (hk : k < 3) (w : World) :
    (Instr.index 117 (.agg #[.slice (A 0) (n 0) (c 0), .string (X 0).letters, .string (X 0).more, .string (X 0).first, .slice (B 0) (m 0) (d 0), .int .i64 (X 0).keep, .slice (A 1) (n 1) (c 1), .string (X 1).letters, .string (X 1).more, .string (X 1).first, .slice (B 1) (m 1) (d 1), .int .i64 (X 1).keep, .slice (A 2) (n 2) (c 2), .string (X 2).letters, .string (X 2).more, .string (X 2).first, .slice (B 2) (m 2) (d 2), .int .i64 (X 2).keep]) (.int .i64 (k : Nat))).run Tryz.prog w
      = .ok (.agg #[.slice (A k) (n k) (c k), .string (X k).letters, .string (X k).more, .string (X k).first, .slice (B k) (m k) (d k), .int .i64 (X k).keep]) w := by
  rcases (by omega : k = 0 ∨ k = 1 ∨ k = 2) with rfl | rfl | rfl
  · exact idx0 _ _ _ _ _ _ _ _ _ _ _ _ _ _ _ _ _ _ w
  · exact idx1 _ _ _ _ _ _ _ _ _ _ _ _ _ _ _ _ _ _ w
  · exact idx2 _ _ _ _ _ _ _ _ _ _ _ _ _ _ _ _ _ _ w
/-- a tree's box, by letters -/
def boxG (A0 : Option Addr) (n0 c0 : Nat) (A B : Nat → Option Addr) (n c m d : Nat → Nat) (X : Nat → Sf) (v5 : Value) (keep time : Int) : Array Value :=
  treeC (.slice A0 n0 c0) (.slice (A 0) (n 0) (c 0)) (X 0) (.slice (B 0) (m 0) (d 0)) (.slice (A 1) (n 1) (c 1)) (X 1) (.slice (B 1) (m 1) (d 1)) (.slice (A 2) (n 2) (c 2)) (X 2) (.slice (B 2) (m 2) (d 2)) keep time v5

/-- how many of three pass -/
def cntB (b : Nat → Bool) : Int := (((List.range 3).filter b).length : Nat)
theorem cnt_len (v0 : Value) (A : Nat → Option Addr) (n c : Nat → Nat) (b : Nat → Bool) : ((vsK v0 A n c b 3).length : Int) = cntB b + 1 := by
  unfold vsK cntB; simp

end Go.Proofs.YtfhpkcamigkmdaaGreatDoor.W
namespace Go.Proofs.YtfhpkcamigkmdaaGreatDoor.W
open Go.RowKit K R

set_option maxHeartbeats 8000000 in
set_option maxRecDepth 100000 in
theorem passL (w : World) (g : Nat) (A0 : Option Addr) (n0 c0 : Nat) (A B : Nat → Option Addr) (n c m d : Nat → Nat) (X : Nat → Sf) (v5 : Value) (keep time : Int) (b : Nat → Bool) (p1 : Addr)
    (hbox : w.heap[g]? = some (.cells (boxG A0 n0 c0 A B n c m d X v5 keep time) 119 (0, 0)))
    (hf : ∀ W, Below w.heap.size w W → ∀ k, k < 3 → Calls Tryz.prog 89 #[.agg #[.string (X k).letters, .string (X k).more, .string (X k).first, .slice (B k) (m k) (d k), .int .i64 (X k).keep], .pointer (some p1)] W fun e w' => e = .returned (.bool (b k)) ∧ Below W.heap.size W w') :
    Calls Tryz.prog 72 #[.pointer (some ⟨g, 0, none⟩), .func (.func 89) #[] #[.pointer (some p1)]] w fun e w' => ∃ gg N cap, e = .returned (.slice (some ⟨gg, 0, none⟩) N cap) ∧ w'.ownsRow w.heap.size 29 1 (.slice (some ⟨gg, 0, none⟩) N cap) N (vsK (.slice A0 n0 c0) A n c b 3) ∧ Below w.heap.size w w' := by
  unfold boxG at hbox
  have hgl : g < w.heap.size := (Array.getElem?_eq_some_iff.1 hbox).1
  obtain ⟨q0, -⟩ := tree_cells hbox
  obtain ⟨W1, hW1⟩ : ∃ W, W = w.alloc (.cells #[.slice A0 n0 c0] 29) := ⟨_, rfl⟩
  have hb1 : Below w.heap.size w W1 := by rw [hW1]; exact (Below.refl _ _).alloc (Nat.le_refl _) _
  have HO := Lib.hid (show W1.ownsRow w.heap.size 29 1 (.slice (some ⟨w.heap.size, 0, none⟩) 1 1) 1 [.slice A0 n0 c0] by rw [hW1]; exact own1 w _)
  obtain ⟨-, k1, k2, k3, k4, k5, k6, k7, k8, k9, k10, k11, k12, k13, k14, k15, k16, k17, k18, k19, k20, k21⟩ := tree_cells ((hb1.block g hgl).trans hbox)
  have HB := Lib.hid hb1
  have HW1 := Lib.hid hW1
  have HF := Lib.hid hf
  clear hbox hb1 hW1 hf
  go_enter Tryz.func72, Tryz.ntmps72
  go_upto_region 2 with fail
  rw [← HW1.out]
  go_wp2_with fail
  clear k1 k2 k3 k4 k5 k6 k7 k8 k9 k10 k11 k12 k13 k14 k15 k16 k17 k18 k19 k20 k21
  go_loopw [5, 17] (fun sv iv wr => ∃ (k N g1 cap : Nat) (VS : List Value), k ≤ 3 ∧ iv = .int .i64 (k : Nat) ∧ sv = .slice (some ⟨g1, 0, none⟩) N cap ∧ N ≤ k + 1 ∧ Hid (VS = vsK (.slice A0 n0 c0) A n c b k) ∧ wr.ownsRow w.heap.size 29 1 (.slice (some ⟨g1, 0, none⟩) N cap) N VS ∧ Below w.heap.size w wr) (fun _ iv _ => 3 - (intOf iv).toNat)
  case atStart => exact ⟨0, 1, w.heap.size, 1, _, by omega, rfl, rfl, by omega, Lib.hid rfl, HO.out, HB.out⟩
  case round =>
    obtain ⟨k, N, g1, cap, VS, hk, rfl, rfl, hN, HVS, ho, hb⟩ := hrel
    have HOL := Lib.hid ho
    have HBL := Lib.hid hb
    clear ho hb
    by_cases hlt : k < 3
    · have hix := fun W => idxG A B n c m d X k hlt W
      have hlti : (k : Int) < 3 := by omega
      have HC := Lib.hid (fun W (hW : Below w.heap.size w W) => HF.out W hW k hlt)
      obtain ⟨bk, hbk⟩ : ∃ bk, bk = b k := ⟨_, rfl⟩
      rw [← hbk] at HC
      have HBK := Lib.hid hbk
      obtain ⟨Ak, hAk⟩ : ∃ x, x = A k := ⟨_, rfl⟩
      obtain ⟨nk, hnk⟩ : ∃ x, x = n k := ⟨_, rfl⟩
      obtain ⟨ck, hck⟩ : ∃ x, x = c k := ⟨_, rfl⟩
      obtain ⟨Bk, hBk⟩ : ∃ x, x = B k := ⟨_, rfl⟩
      obtain ⟨mk, hmk⟩ : ∃ x, x = m k := ⟨_, rfl⟩
      obtain ⟨dk, hdk⟩ : ∃ x, x = d k := ⟨_, rfl⟩
      have HL := Lib.hid (show (.slice (A k) (n k) (c k) : Value) = .slice Ak nk ck by rw [hAk, hnk, hck])
      rw [← hBk, ← hmk, ← hdk] at HC
      rw [← hAk, ← hnk, ← hck, ← hBk, ← hmk, ← hdk] at hix
      obtain ⟨Xk, hXk⟩ : ∃ x, x = X k := ⟨_, rfl⟩
      rw [← hXk] at HC hix
      clear hbk hAk hnk hck hBk hmk hdk hXk
      go_wp2_with fail
      go_at_call 89
      refine Calls.mono (HC.out _ (HBL.out.alloc HBL.out.size _)) ?_
      rintro e y1 ⟨rfl, by1⟩
      have p1 := slot_new by1 (u := .slice Ak nk ck) rfl
      have HP1 := Lib.hid (rowBelow (World.ownsRow.alloc HOL.out _) by1)
      have HQ1 := Lib.hid ((HBL.out.alloc HBL.out.size _).trans (by1.mono (Nat.le_trans HBL.out.size (by simp))))
      clear by1
      cases bk with
      | true =>
        have HN := Lib.hid (vsK_yes (v0 := .slice A0 n0 c0) (A := A) (n := n) (c := c) HBK.out.symm)
        go_wp2_with (at_builtin; go_must (refine app_sl rfl (.tmp 24) (.tmp 27) rfl _ w.heap.size _ N VS rfl (World.ownsRow.alloc HP1.out _) y1.heap.size 1 (.slice Ak nk ck) rfl (cell_new _ _ _) rfl (by omega) (Nat.le_trans HQ1.out.size (by simp)) ?_); intro g2 cap2 z2 o2 gr2; have HO2 := Lib.hid o2; have HB2 := Lib.hid (low_app (HQ1.out.alloc HQ1.out.size _) (World.ownsRow.alloc HP1.out _) gr2); clear o2 gr2)
        go_roundw
        case rel => exact ⟨k + 1, N + 1, g2, cap2, VS ++ [.slice Ak nk ck], by omega, by go_num, rfl, by omega, Lib.hid (by rw [HN.out, HVS.out, HL.out]), HO2.out, HB2.out⟩
        case measure => simp [intOf]; omega
      | false =>
        have HN := Lib.hid (vsK_no (v0 := .slice A0 n0 c0) (A := A) (n := n) (c := c) HBK.out.symm)
        go_wp2
        go_roundw
        case rel => exact ⟨k + 1, N, g1, cap, VS, by omega, by go_num, rfl, by omega, Lib.hid (by rw [HN.out, HVS.out]), HP1.out, HQ1.out⟩
        case measure => simp [intOf]; omega
    · have hke : k = 3 := by omega
      subst hke
      have hfin := HVS.out
      subst hfin
      have hng : ¬ ((3 : Nat) : Int) < 3 := by omega
      go_wp2
      go_ret
      exact ⟨g1, N, cap, rfl, HOL.out, HBL.out⟩

set_option maxHeartbeats 4000000 in
theorem countL (w : World) (g : Nat) (A0 : Option Addr) (n0 c0 : Nat) (A B : Nat → Option Addr) (n c m d : Nat → Nat) (X : Nat → Sf) (v5 : Value) (keep time : Int) (b : Nat → Bool) (p1 : Addr)
    (hbox : w.heap[g]? = some (.cells (boxG A0 n0 c0 A B n c m d X v5 keep time) 119 (0, 0)))
    (hf : ∀ W, Below w.heap.size w W → ∀ k, k < 3 → Calls Tryz.prog 89 #[.agg #[.string (X k).letters, .string (X k).more, .string (X k).first, .slice (B k) (m k) (d k), .int .i64 (X k).keep], .pointer (some p1)] W fun e w' => e = .returned (.bool (b k)) ∧ Below W.heap.size W w') :
    Calls Tryz.prog 88 #[.pointer (some ⟨g, 0, none⟩), .func (.func 89) #[] #[.pointer (some p1)]] w fun e w' => e = .returned (.int .i64 (cntB b)) ∧ Below w.heap.size w w' := by
  have HP := Lib.hid (passL w g A0 n0 c0 A B n c m d X v5 keep time b p1 hbox hf)
  clear hbox hf
  go_enter Tryz.func88, Tryz.ntmps88
  go_wp2_with fail
  go_at_call 72
  refine Calls.mono HP.out ?_
  rintro e w2 ⟨gg, N, cap, rfl, ho, hb⟩
  have hw : IntKind.i64.wrap ((N : Int) - 1) = cntB b := by
    have h1 : (vsK (.slice A0 n0 c0) A n c b 3).length = N * 1 := ho.1
    have h2 := cnt_len (.slice A0 n0 c0) A n c b
    have h3 : cntB b = (N : Int) - 1 := by omega
    have h4 : (((List.range 3).filter b).length : Int) ≤ 3 := by have := List.length_filter_le b (List.range 3); simp at this; omega
    rw [i64_z _ (by unfold cntB at h3; omega) (by unfold cntB at h3; omega), h3]
  have HB := Lib.hid hb
  clear ho hb
  go_wp2
  go_ret
  exact ⟨rfl, HB.out⟩

end Go.Proofs.YtfhpkcamigkmdaaGreatDoor.W
namespace Go.Proofs.YtfhpkcamigkmdaaGreatDoor.T
/-- what is kept is short -/
theorem add_short (s : Sv) (B : Nat) (hB : ∀ r ∈ s.rests, r.length ≤ B) : ∀ (n i t : Nat) (head : Str), s.letters.length - i ≤ n → ∀ y ∈ s.add i t head, y.length ≤ 6 + B
  | 0, i, t, head, hn => by
    intro y hy
    rw [Sv.add, dif_neg (by omega)] at hy
    cases hy
  | n + 1, i, t, head, hn => by
    intro y hy
    rw [Sv.add] at hy
    by_cases hh : i < t ∧ i < s.letters.length ∧ head.length ≤ 5
    · rw [dif_pos hh] at hy
      by_cases hm : s.more.getD i 0 = 49
      · rw [if_pos hm] at hy
        by_cases ha : (s.kids i).1 ≤ i
        · rw [dif_pos ha] at hy; cases hy
        · rw [dif_neg ha] at hy
          rcases List.mem_append.mp hy with h | h
          · exact add_short s B hB n _ _ _ (by omega) y h
          · exact add_short s B hB n _ _ _ (by omega) y h
      · rw [if_neg hm] at hy
        rcases List.mem_append.mp hy with h | h
        · by_cases hq : i - s.rank i < s.rests.length
          · rw [if_pos hq] at h
            have h1 := List.mem_singleton.mp h
            have hr : (s.rests.getD (i - s.rank i) []).length ≤ B := by
              rw [List.getD_eq_getElem?_getD, List.getElem?_eq_getElem hq]
              exact hB _ (List.getElem_mem hq)
            have hn1 : (s.now head i).length ≤ head.length + 1 := by unfold Sv.now; split <;> simp
            rw [h1, List.length_append]
            omega
          · rw [if_neg hq] at h; cases h
        · exact add_short s B hB n _ _ _ (by omega) y h
    · rw [dif_neg hh] at hy; cases hy
end Go.Proofs.YtfhpkcamigkmdaaGreatDoor.T
namespace Go.Proofs.YtfhpkcamigkmdaaGreatDoor.W
open Go.RowKit K

/-- what is kept, as strings -/
def hsOf (L M F : ByteArray) (l : List ByteArray) (kp : Nat) : List ByteArray := (svOf L M F l kp).heads.map ba
theorem ls_hs (L M F : ByteArray) (l : List ByteArray) (kp : Nat) : ls (hsOf L M F l kp) = (svOf L M F l kp).heads := by
  unfold ls hsOf
  rw [List.map_map]
  have : ∀ y ∈ (svOf L M F l kp).heads, ((fun z : ByteArray => z.toList) ∘ ba) y = id y := fun y _ => ba_l y
  rw [List.map_congr_left this, List.map_id]
/-- a filter is that of what it keeps -/
def backB (L M F : ByteArray) (l : List ByteArray) (kp : Nat) : Bool :=
  keysB (hsOf L M F l kp) && (eqs (ba (T.sieve kp (svOf L M F l kp).heads).letters) L && (eqs (ba (T.sieve kp (svOf L M F l kp).heads).more) M && (eqs (ba (T.sieve kp (svOf L M F l kp).heads).first) F && sameL ((T.sieve kp (svOf L M F l kp).heads).rests.map ba) l)))
/-- a filter is one -/
def svB (L M F : ByteArray) (l : List ByteArray) (keep : Int) : Bool := formB L M F l.length keep && backB L M F l keep.toNat
theorem hs_len {L M F : ByteArray} {l : List ByteArray} {kp : Nat} (hLM : M.size = L.size) : (hsOf L M F l kp).length ≤ L.size := by
  unfold hsOf
  rw [List.length_map]
  have h1 := T.add_le (svOf L M F l kp) (svOf L M F l kp).letters.length 0 ((svOf L M F l kp).sel 1) [] (by omega)
  have h2 := T.cnt_root (svOf L M F l kp) (by show M.toList.length = L.toList.length; rw [len_L, len_L, hLM])
  have h3 : (svOf L M F l kp).letters.length = L.size := len_L L
  unfold T.Sv.heads
  omega
theorem hs_fit {L M F : ByteArray} {l : List ByteArray} {kp : Nat} (hl : ∀ i (h : i < l.length), l[i].size ≤ 1000000000000) : ∀ s ∈ hsOf L M F l kp, s.size ≤ 1000000000006 := by
  intro s hs
  unfold hsOf at hs
  obtain ⟨y, hy, rfl⟩ := List.mem_map.mp hs
  have := T.add_short (svOf L M F l kp) 1000000000000 (fun r hr => by
    have hr' : r ∈ l.map (·.toList) := hr
    obtain ⟨z, hz, rfl⟩ := List.mem_map.mp hr'
    obtain ⟨i, hi, rfl⟩ := List.mem_iff_getElem.mp hz
    rw [len_L]; exact hl i hi) (svOf L M F l kp).letters.length 0 ((svOf L M F l kp).sel 1) [] (by omega) y hy
  have e : (ba y).size = y.length := by rw [← len_L, ba_l]
  omega

set_option maxRecDepth 8000 in
set_option maxHeartbeats 4000000 in
theorem okSv (L M F : ByteArray) (A : Option Addr) (n c : Nat) (l : List ByteArray) (keep : Int) (w : World) (hL : L.size ≤ maxLen) (hM : M.size ≤ maxLen) (hF : F.size ≤ maxLen) (hr : Strs w w.heap.size A n l) (hnc : n ≤ c) (hc : c ≤ maxLen) (hfit : ∀ i (h : i < l.length), l[i].size ≤ 1000000000000) :
    Calls Tryz.prog 120 #[.agg #[.string L, .string M, .string F, .slice A n c, .int .i64 keep]] w fun e w' => e = .returned (.bool (svB L M F l keep)) ∧ Below w.heap.size w w' := by
  have hlen := hr.len
  subst hlen
  have HR := Lib.hid hr
  have HFI := Lib.hid hfit
  have HFO := Lib.hid (show ∀ W : World, Calls Tryz.prog 160 #[.agg #[.string L, .string M, .string F, .slice A l.length c, .int .i64 keep]] W fun e w' => e = .returned (.bool (formB L M F l.length keep)) ∧ Below W.heap.size W w' from fun W => formS L M F A l.length c keep W hL hM hF)
  clear hr hfit
  rcases Bool.eq_false_or_eq_true (formB L M F l.length keep) with hfo | hfo
  · rw [hfo] at HFO
    have HFB := Lib.hid hfo
    obtain ⟨p1, p2, p3, p4, p5, p6⟩ := form_parts hfo
    obtain ⟨kp, rfl⟩ := Int.eq_ofNat_of_zero_le p5
    clear hfo
    go_enter Tryz.func120, Tryz.ntmps120
    go_wp2_with fail
    go_at_call 160
    refine (HFO.out _).mono ?_
    rintro e w1 ⟨rfl, hb1⟩
    have hbx : w1.heap[w.heap.size]? = some (Obj.cells #[.string L, .string M, .string F, .slice A l.length c, .int .i64 kp] 92) := by rw [hb1.block _ (by simp)]; exact heap_alloc_new _ _
    have hbw : Below w.heap.size w w1 := ((Below.refl _ _).alloc (Nat.le_refl _) _).trans (hb1.mono (by simp))
    have hs1 : w.heap.size < w1.heap.size := (Array.getElem?_eq_some_iff.1 hbx).1
    have a0 : w1.cell? ⟨w.heap.size, 0, none⟩ = some (.string L) := by rw [cell_of_row _ _ _ _ _ _ hbx]; rfl
    have a1 : w1.cell? ⟨w.heap.size, 1, none⟩ = some (.string M) := by rw [cell_of_row _ _ _ _ _ _ hbx]; rfl
    have a2 : w1.cell? ⟨w.heap.size, 2, none⟩ = some (.string F) := by rw [cell_of_row _ _ _ _ _ _ hbx]; rfl
    have a3 : w1.cell? ⟨w.heap.size, 3, none⟩ = some (.slice A l.length c) := by rw [cell_of_row _ _ _ _ _ _ hbx]; rfl
    have a4 : w1.cell? ⟨w.heap.size, 4, none⟩ = some (.int .i64 kp) := by rw [cell_of_row _ _ _ _ _ _ hbx]; rfl
    have HHS := Lib.hid (show Calls Tryz.prog 121 #[.agg #[.string L, .string M, .string F, .slice A l.length c, .int .i64 kp]] w1 (New w1 (hsOf L M F l kp)) from headsS L M F A l.length c l kp w.heap.size w1 p1 p2 p3 (by omega) HFI.out (HR.out.below hbw (Nat.le_refl _)) (by omega))
    have HBX := Lib.hid hbx
    have HBW := Lib.hid hbw
    clear hbx hbw hb1
    go_wp2_with fail
    go_at_call 121
    refine HHS.out.mono ?_
    rintro e w2 ⟨v2, rfl, ho2, hb2⟩
    obtain ⟨A2, c2, hv2, hc2, hm2, hst2⟩ := ho2.parts
    subst hv2
    have hbx2 : w2.heap[w.heap.size]? = some (Obj.cells #[.string L, .string M, .string F, .slice A l.length c, .int .i64 kp] 92) := by rw [hb2.block _ hs1]; exact HBX.out
    have hs2 : w1.heap.size ≤ w2.heap.size := hb2.size
    clear a0 a1 a2 a3 a4
    have a4 : w2.cell? ⟨w.heap.size, 4, none⟩ = some (.int .i64 kp) := by rw [cell_of_row _ _ _ _ _ _ hbx2]; rfl
    have HOF := Lib.hid (ofS w2 _ c2 A2 (hsOf L M F l kp) kp hst2 hc2 hm2 (fun s hs => Nat.le_trans (hs_fit HFI.out s hs) (by unfold maxLen; omega)))
    have HBX2 := Lib.hid hbx2
    have HBW2 := Lib.hid (HBW.out.trans (hb2.mono (by omega)))
    have HR2 := Lib.hid (HR.out.below HBW2.out (Nat.le_refl _))
    clear hbx2 hb2 ho2 hst2
    obtain ⟨n2, hn2⟩ : ∃ n2, n2 = (hsOf L M F l kp).length := ⟨_, rfl⟩
    rw [← hn2] at HOF hc2 ⊢
    clear hn2
    go_wp2_with fail
    go_at_call 107
    refine HOF.out.mono ?_
    intro e w3 hof
    rcases hof with ⟨hk, -, hofr⟩ | ⟨hno, rfl, hb3⟩
    · obtain ⟨v4, rfl, ho4, hb3⟩ := hofr
      rw [Int.toNat_natCast, ls_hs] at ho4 ⊢
      have HBK := Lib.hid (show backB L M F l kp = (eqs (ba (T.sieve kp (svOf L M F l kp).heads).letters) L && (eqs (ba (T.sieve kp (svOf L M F l kp).heads).more) M && (eqs (ba (T.sieve kp (svOf L M F l kp).heads).first) F && sameL ((T.sieve kp (svOf L M F l kp).heads).rests.map ba) l))) by unfold backB; rw [hk]; rfl)
      generalize ba (T.sieve kp (svOf L M F l kp).heads).letters = y1 at HBK ⊢
      generalize ba (T.sieve kp (svOf L M F l kp).heads).more = y2 at HBK ⊢
      generalize ba (T.sieve kp (svOf L M F l kp).heads).first = y3 at HBK ⊢
      generalize (T.sieve kp (svOf L M F l kp).heads).rests.map ba = y4 at HBK ho4
      obtain ⟨A4, c4, hv4, hc4, hm4, hst4⟩ := ho4.parts
      subst hv4
      have hbx3 : w3.heap[w.heap.size]? = some (Obj.cells #[.string L, .string M, .string F, .slice A l.length c, .int .i64 kp] 92) := by rw [hb3.block _ (by omega)]; exact HBX2.out
      have b0 : w3.cell? ⟨w.heap.size, 0, none⟩ = some (.string L) := by rw [cell_of_row _ _ _ _ _ _ hbx3]; rfl
      have b1 : w3.cell? ⟨w.heap.size, 1, none⟩ = some (.string M) := by rw [cell_of_row _ _ _ _ _ _ hbx3]; rfl
      have b2 : w3.cell? ⟨w.heap.size, 2, none⟩ = some (.string F) := by rw [cell_of_row _ _ _ _ _ _ hbx3]; rfl
      have b3 : w3.cell? ⟨w.heap.size, 3, none⟩ = some (.slice A l.length c) := by rw [cell_of_row _ _ _ _ _ _ hbx3]; rfl
      have hs3 : w.heap.size < w3.heap.size := (Array.getElem?_eq_some_iff.1 hbx3).1
      have HBW3 := Lib.hid (HBW2.out.trans (hb3.mono (by omega)))
      have hn0 : l.length ≤ maxLen := Nat.le_trans hnc hc
      have hn4 : y4.length ≤ maxLen := Nat.le_trans hc4 hm4
      have HSA := Lib.hid (show ∀ (W : World), Below w3.heap.size w3 W → Calls Tryz.prog 135 #[.slice A4 y4.length c4, .slice A l.length c] W fun e w' => e = .returned (.bool (sameL y4 l)) ∧ Same W w' from fun W hW =>
        sames3 W w3.heap.size y4.length c4 l.length c A4 A y4 l (hst4.below hW (Nat.le_refl _)) ((HR2.out.below (hb3.mono (show w.heap.size ≤ w2.heap.size by omega)) (Nat.le_refl _)).below (hW.mono (show w.heap.size ≤ w3.heap.size by omega)) (Nat.le_refl _) |>.more (by omega)) hn4 hn0)
      clear hbx3 hb3 ho4 hst4 hk
      rcases Bool.eq_false_or_eq_true (y1.toList == L.toList) with g1 | g1
      · rcases Bool.eq_false_or_eq_true (y2.toList == M.toList) with g2 | g2
        · rcases Bool.eq_false_or_eq_true (y3.toList == F.toList) with g3 | g3
          · have G := Lib.hid (show backB L M F l kp = sameL y4 l by rw [HBK.out]; have e1 : eqs y1 L = true := g1; have e2 : eqs y2 M = true := g2; have e3 : eqs y3 F = true := g3; rw [e1, e2, e3]; rfl)
            go_wp2_with (go_at_call 135; refine Calls.mono (HSA.out _ (by exact (Below.refl _ _).alloc (Nat.le_refl _) _)) ?_; rintro e w5 ⟨rfl, m5, rfl⟩)
            go_ret
            exact ⟨ret_bool (by unfold svB; rw [HFB.out, Int.toNat_natCast, G.out]; rfl), below_drewN (HBW3.out.alloc (by omega) _) m5⟩
          · have G := Lib.hid (show backB L M F l kp = false by rw [HBK.out]; have e1 : eqs y1 L = true := g1; have e2 : eqs y2 M = true := g2; have e3 : eqs y3 F = false := g3; rw [e1, e2, e3]; rfl)
            go_wp2
            go_ret
            exact ⟨ret_bool (by unfold svB; rw [HFB.out, Int.toNat_natCast, G.out]; rfl), HBW3.out.alloc (by omega) _⟩
        · have G := Lib.hid (show backB L M F l kp = false by rw [HBK.out]; have e1 : eqs y1 L = true := g1; have e2 : eqs y2 M = false := g2; rw [e1, e2]; rfl)
          go_wp2
          go_ret
          exact ⟨ret_bool (by unfold svB; rw [HFB.out, Int.toNat_natCast, G.out]; rfl), HBW3.out.alloc (by omega) _⟩
      · have G := Lib.hid (show backB L M F l kp = false by rw [HBK.out]; have e1 : eqs y1 L = false := g1; rw [e1]; rfl)
        go_wp2
        go_ret
        exact ⟨ret_bool (by unfold svB; rw [HFB.out, Int.toNat_natCast, G.out]; rfl), HBW3.out.alloc (by omega) _⟩
    · have hkf : keysB (hsOf L M F l kp) = false := by
        rcases hno with h | h
        · exact h
        · have : inB (kp : Int) 0 5 = true := by unfold inB; exact decide_eq_true ⟨by omega, by omega⟩
          rw [this] at h; cases h
      have G := Lib.hid (show backB L M F l kp = false by unfold backB; rw [hkf]; rfl)
      have hs3 : w2.heap.size ≤ w3.heap.size := hb3.size
      have HBW3 := Lib.hid (HBW2.out.trans (hb3.mono (by omega)))
      clear hkf hno hb3
      go_wp2
      go_ret
      exact ⟨ret_bool (by unfold svB; rw [HFB.out, Int.toNat_natCast, G.out]; rfl), HBW3.out.alloc (by omega) _⟩
  · rw [hfo] at HFO
    have HFB := Lib.hid hfo
    clear hfo
    go_enter Tryz.func120, Tryz.ntmps120
    go_wp2_with (go_at_call 160; refine (HFO.out _).mono ?_; rintro e w1 ⟨rfl, hb1⟩)
    go_ret
    exact ⟨ret_bool (by unfold svB; rw [HFB.out]; rfl), ((Below.refl _ _).alloc (Nat.le_refl _) _).trans (hb1.mono (by simp))⟩

end Go.Proofs.YtfhpkcamigkmdaaGreatDoor.W
namespace Go.Proofs.YtfhpkcamigkmdaaGreatDoor.W
open Go.RowKit K

theorem keyB_of {s : List UInt8} (h : T.isKey s) : keyB (ba s) = true := by
  unfold keyB
  have e : (ba s).size = s.length := by rw [← len_L, ba_l]
  have e2 : (ba s).data.toList = s := by rw [← ByteArray.toList_eq, ba_l]
  rw [e, e2]
  simp only [Bool.and_eq_true, decide_eq_true_eq, List.all_eq_true]
  refine ⟨h.1, fun c hc => ?_⟩
  have := h.2 c hc
  unfold letterB
  simp only [Bool.and_eq_true, decide_eq_true_eq]
  exact this
theorem keysB_of {ks : List T.Str} (h : T.KeyL ks) (hn : ks.length ≤ 24) : keysB (ks.map ba) = true := by
  rw [keys_iff]
  refine ⟨by rw [List.length_map]; exact hn, fun x hx => ?_, ?_⟩
  · obtain ⟨s, hs, rfl⟩ := List.mem_map.mp hx
    exact keyB_of (h.key s hs)
  · unfold asc
    rw [List.pairwise_map]
    have ha : ks.Pairwise (· < ·) := h.asc
    exact ha.imp fun {a b} hab => lt_iff.mpr (by rw [ba_l, ba_l]; exact hab)
theorem map_ba_l {r : List T.Str} {l : List ByteArray} (h : r.map ba = l) : r = l.map (·.toList) := by
  rw [← h, List.map_map]
  have : ∀ y ∈ r, ((fun z : ByteArray => z.toList) ∘ ba) y = id y := fun y _ => ba_l y
  rw [List.map_congr_left this, List.map_id]
/-- a filter that is one is one in mathematics -/
theorem svB_is {L M F : ByteArray} {l : List ByteArray} {kp : Nat} (h : svB L M F l kp = true) : T.isSv (svOf L M F l kp) := by
  unfold svB at h
  rw [Int.toNat_natCast, Bool.and_eq_true] at h
  obtain ⟨hf, hb⟩ := h
  have hp := form_parts hf
  unfold backB at hb
  simp only [Bool.and_eq_true] at hb
  obtain ⟨hk, h1, h2, h3, h4⟩ := hb
  have hkl := keyL_of hk
  rw [ls_hs] at hkl
  have hn := (keys_iff.mp hk).1
  unfold hsOf at hn
  rw [List.length_map] at hn
  refine ⟨hkl, hn, by show kp ≤ 5; omega, ?_⟩
  have e1 := eqs_iff.mp h1
  have e2 := eqs_iff.mp h2
  have e3 := eqs_iff.mp h3
  have e4 := map_ba_l (sameL_iff.mp h4)
  show svOf L M F l kp = T.sieve kp (svOf L M F l kp).heads
  have f1 : L.toList = (T.sieve kp (svOf L M F l kp).heads).letters := by rw [← ba_l (T.sieve kp (svOf L M F l kp).heads).letters, e1]
  have f2 : M.toList = (T.sieve kp (svOf L M F l kp).heads).more := by rw [← ba_l (T.sieve kp (svOf L M F l kp).heads).more, e2]
  have f3 : F.toList = (T.sieve kp (svOf L M F l kp).heads).first := by rw [← ba_l (T.sieve kp (svOf L M F l kp).heads).first, e3]
  have f5 : kp = (T.sieve kp (svOf L M F l kp).heads).keep := rfl
  generalize T.sieve kp (svOf L M F l kp).heads = S at f1 f2 f3 e4 f5
  unfold svOf
  rw [f1, f2, f3, ← e4]
  cases S
  simp only at f5
  rw [f5]

end Go.Proofs.YtfhpkcamigkmdaaGreatDoor.W
namespace Go.Proofs.YtfhpkcamigkmdaaGreatDoor.W
open Go.RowKit K

/-- ones ahead of a place -/
def M_ones (M_ : ByteArray) (k : Nat) : Nat := Go.Proofs.YtfhpkcamigkmdaaGreatDoor.M.ones (M_.toList.take k)
/-- what is read at a branch -/
theorem at_branch {L M F : ByteArray} {l : List ByteArray} {kp : Nat} {N : List T.Fork} (hsv : svOf L M F l kp = T.enc kp N) {j p : Nat} {f : T.Fork} {b : T.Br} (hj : N[j]? = some f) (hp : (T.bs f)[p]? = some b) :
    ∃ (h1 : T.start N j + p < L.size) (h2 : T.start N j + p < M.size), L[T.start N j + p] = b.1 ∧ M[T.start N j + p] = T.bit (T.goes b) := by
  obtain ⟨hm, hl⟩ := T.more_at N j p f b hj hp
  have e1 : L.toList = T.letters N := congrArg T.Sv.letters hsv
  have e2 : M.toList = T.more N := congrArg T.Sv.more hsv
  rw [← e1] at hl
  rw [← e2] at hm
  have h1 : T.start N j + p < L.size := by rw [← len_L]; exact (List.getElem?_eq_some_iff.mp hl).1
  have h2 : T.start N j + p < M.size := by rw [← len_L]; exact (List.getElem?_eq_some_iff.mp hm).1
  refine ⟨h1, h2, ?_, ?_⟩
  · have := at_L L _ h1
    rw [List.getD_eq_getElem?_getD, hl] at this
    exact this.symm
  · have := at_L M _ h2
    rw [List.getD_eq_getElem?_getD, hm] at this
    exact this.symm

end Go.Proofs.YtfhpkcamigkmdaaGreatDoor.W
namespace Go.Proofs.YtfhpkcamigkmdaaGreatDoor.T
open M
theorem sel_one {keys : List Str} (h : KeyL keys) (hne : keys ≠ []) (keep : Nat) : (sieve keep keys).sel 1 = start (forks keys) 1 := by
  obtain ⟨Tr, h0⟩ := tree_of h hne
  have e2 : nodes (loads [⟨keys, 0⟩]) [⟨keys, 0⟩] = forks keys := rfl
  rw [e2] at Tr h0
  show ((oneIdx (firsts (forks keys)) 1).getD (firsts (forks keys)).length) = start (forks keys) 1
  have hl : 0 < (forks keys).length := (List.getElem?_eq_some_iff.mp h0).1
  rcases Nat.lt_or_ge 1 (forks keys).length with hlt | hge
  · rw [first_one _ Tr.some_ 1 hlt]; rfl
  · have hl1 : (forks keys).length = 1 := by omega
    have := first_end _ Tr.some_
    rw [hl1] at this
    rw [this, len_firsts, hl1]; rfl
theorem start_zero (N : List Fork) : start N 0 = 0 := by cases N <;> rfl
theorem sieve_nil (keep : Nat) : (sieve keep []).letters = [] := by
  have hl : loads [rootF []] = 1 := by simp [loads, rootF, load]
  have hf : forks [] = [rootF []] := by unfold forks; rw [hl]; rfl
  have hb : bs (rootF []) = [] := by unfold bs rootF; rw [brs_nil]
  unfold sieve; rw [hf]; unfold enc letters; simp [hb]
end Go.Proofs.YtfhpkcamigkmdaaGreatDoor.T
namespace Go.Proofs.YtfhpkcamigkmdaaGreatDoor.W
open Go.RowKit K

end Go.Proofs.YtfhpkcamigkmdaaGreatDoor.W
namespace Go.Proofs.YtfhpkcamigkmdaaGreatDoor.W
open Go.RowKit K

/-- the way has come to fork f -/
structure OnWay (N : List T.Fork) (kp : Nat) (k : T.Str) (keys : List T.Str) (j : Nat) (f : T.Fork) : Prop where
  at_ : N[j]? = some f
  alike : ∀ x ∈ f.keys, x.take f.deep = k.take f.deep
  has : (T.sepL keys).any (T.mayBe kp k) = (T.leaves (6 - f.deep) f).any (T.mayBe kp k)
/-- the branches up to here: the one that has the letter, if it was met -/
def Met (f : T.Fork) (k : T.Str) (st p : Nat) (at_ : Int) : Prop :=
  (at_ = -1 ∧ ∀ i (h : i < (T.bs f).length), i < p → (T.bs f)[i].1 ≠ T.letter k f.deep) ∨ ∃ (i : Nat) (b : T.Br), at_ = (st + i : Nat) ∧ (T.bs f)[i]? = some b ∧ b.1 = T.letter k f.deep ∧ i < p
theorem met_zero (f : T.Fork) (k : T.Str) (st : Nat) : Met f k st 0 (-1) := .inl ⟨rfl, fun i _ h => by omega⟩
theorem met_hit {f : T.Fork} {k : T.Str} {st p : Nat} {b : T.Br} (hb : (T.bs f)[p]? = some b) (hl : b.1 = T.letter k f.deep) : Met f k st (p + 1) ((st + p : Nat) : Int) := .inr ⟨p, b, rfl, hb, hl, by omega⟩
theorem met_miss {f : T.Fork} {k : T.Str} {st p : Nat} {a : Int} {b : T.Br} (h : Met f k st p a) (hb : (T.bs f)[p]? = some b) (hl : ¬ b.1 = T.letter k f.deep) : Met f k st (p + 1) a := by
  rcases h with ⟨h1, h2⟩ | ⟨i, b', h1, h2, h3, h4⟩
  · refine .inl ⟨h1, fun i hi hip => ?_⟩
    rcases (by omega : i < p ∨ i = p) with e | e
    · exact h2 i hi e
    · subst e
      rw [List.getElem?_eq_getElem hi] at hb
      injection hb with hb
      rw [hb]; exact hl
  · exact .inr ⟨i, b', h1, h2, h3, by omega⟩
/-- what l3Walk answers -/
def WalkR (N : List T.Fork) (kp : Nat) (k : ByteArray) (keys : List T.Str) (w : World) (e : Ending) (w' : World) : Prop :=
  Below w.heap.size w w' ∧ ((e = .returned (.tuple #[.int .i64 0, .int .i64 0, .bool false]) ∧ (T.sepL keys).any (T.mayBe kp k.toList) = false) ∨
    ∃ (j p : Nat) (f : T.Fork) (b : T.Br), e = .returned (.tuple #[.int .i64 ((T.start N j + p : Nat) : Int), .int .i64 ((min (f.deep + 1) k.size : Nat) : Int), .bool true]) ∧ OnWay N kp k.toList keys j f ∧ (T.bs f)[p]? = some b ∧ T.goes b = false ∧ b.1 = T.letter k.toList f.deep)

set_option maxRecDepth 8000 in
set_option maxHeartbeats 4000000 in
theorem walkS (L M F : ByteArray) (A : Option Addr) (n0 c : Nat) (l : List ByteArray) (kp : Nat) (keys : List T.Str) (k : ByteArray) (w : World) (hK : T.KeyL keys) (hne : keys ≠ []) (hk : T.isKey k.toList) (hsv : svOf L M F l kp = T.enc kp (T.forks keys)) (hLM : M.size = L.size) (hF : F.size = L.size) (hL : L.size ≤ 400) :
    Calls Tryz.prog 128 #[.agg #[.string L, .string M, .string F, .slice A n0 c, .int .i64 kp], .string k] w (WalkR (T.forks keys) kp k keys w) := by
  obtain ⟨Tr, h0⟩ := T.tree_of hK hne
  have e2 : T.nodes (T.loads [⟨keys, 0⟩]) [⟨keys, 0⟩] = T.forks keys := rfl
  rw [e2] at Tr h0
  obtain ⟨t, ht⟩ : ∃ t : Nat, (t : Int) = oneOr F 1 := ⟨(svOf L M F l kp).sel 1, (oneOr_sel L M F l kp 1).symm⟩
  have hst : t = T.start (T.forks keys) 1 := by
    have h1 := T.sel_one hK hne kp
    have h3 : (svOf L M F l kp).sel 1 = (T.sieve kp keys).sel 1 := by rw [hsv]; rfl
    rw [oneOr_sel L M F l kp, h3, h1] at ht
    exact_mod_cast ht
  have HON := Lib.hid (show ∀ W : World, Calls Tryz.prog 124 #[.string F, .int .i64 1] W fun e w' => e = .returned (.int .i64 t) ∧ W = w' from fun W => by
    have hh := oneS F 1 W (by unfold maxLen; omega) (by omega) (by omega)
    have e1 : (1 : Int).toNat = 1 := rfl
    rw [e1, ← ht] at hh; exact hh)
  have HW0 := Lib.hid (show OnWay (T.forks keys) kp k.toList keys 0 ⟨keys, 0⟩ from ⟨h0, fun _ _ => rfl, rfl⟩)
  have HS0 := Lib.hid (T.start_zero (T.forks keys))
  have HT := Lib.hid Tr
  have HSV := Lib.hid hsv
  have HST := Lib.hid hst
  have hkl : k.size ≤ 5 := by have := hk.1; rw [len_L] at this; exact this
  have HK := Lib.hid hk
  clear hK hne hk hsv Tr h0 e2 ht hst
  go_enter Tryz.func128, Tryz.ntmps128
  go_wp2_with (go_at_call 124; refine (HON.out _).mono ?_; rintro e w' ⟨rfl, rfl⟩)
  go_loopg [7, 8, 9] 6 (fun g s7 s8 s9 wr => ∃ (j : Nat) (f : T.Fork) (a b d : Nat), 5 - f.deep < g ∧ f.deep ≤ 5 ∧ s7 = .int .i64 (a : Nat) ∧ s8 = .int .i64 (b : Nat) ∧ s9 = .int .i64 (d : Nat) ∧ Hid (a = T.start (T.forks keys) j ∧ b = T.start (T.forks keys) (j + 1) ∧ d = f.deep) ∧ Hid (OnWay (T.forks keys) kp k.toList keys j f) ∧ Hid (Below (w.heap.size + 1) (w.alloc (Obj.cells #[.string L, .string M, .string F, .slice A n0 c, .int .i64 kp] 92)) wr))
  case atStart => exact ⟨0, ⟨keys, 0⟩, 0, t, 0, by show 5 - 0 < 6; omega, Nat.zero_le _, rfl, rfl, rfl, Lib.hid ⟨HS0.out.symm, HST.out, rfl⟩, HW0, Lib.hid (Below.refl _ _)⟩
  case round =>
    obtain ⟨j, f, a, b, d, hgh, hd5, rfl, rfl, rfl, HABD, HWY, HB⟩ := hrel
    have hblk : wr.heap[w.heap.size]? = some (Obj.cells #[.string L, .string M, .string F, .slice A n0 c, .int .i64 kp] 92) := by rw [HB.out.block _ (by omega)]; exact heap_alloc_new _ _
    have hb0 : wr.cell? ⟨w.heap.size, 0, none⟩ = some (.string L) := by rw [cell_of_row _ _ _ _ _ _ hblk]; rfl
    have hb1 : wr.cell? ⟨w.heap.size, 1, none⟩ = some (.string M) := by rw [cell_of_row _ _ _ _ _ _ hblk]; rfl
    have hb2 : wr.cell? ⟨w.heap.size, 2, none⟩ = some (.string F) := by rw [cell_of_row _ _ _ _ _ _ hblk]; rfl
    have hb3 : wr.cell? ⟨w.heap.size, 3, none⟩ = some (.slice A n0 c) := by rw [cell_of_row _ _ _ _ _ _ hblk]; rfl
    have hb4 : wr.cell? ⟨w.heap.size, 4, none⟩ = some (.int .i64 kp) := by rw [cell_of_row _ _ _ _ _ _ hblk]; rfl
    clear hblk
    have hwf := HT.out.wf f (List.mem_of_getElem? HWY.out.at_)
    have hst := T.start_mono (T.forks keys) j f HWY.out.at_
    have hjl : j < (T.forks keys).length := (List.getElem?_eq_some_iff.mp HWY.out.at_).1
    have htot : b ≤ L.size := by
      have h1 := T.start_le (T.forks keys) (show j + 1 ≤ (T.forks keys).length by omega) (Nat.le_refl _)
      have e1 : L.toList = T.letters (T.forks keys) := congrArg T.Sv.letters HSV.out
      rw [← T.len_letters, ← e1, len_L, ← HABD.out.2.1] at h1
      exact h1
    have HAB := Lib.hid (show b = a + (T.bs f).length by rw [HABD.out.1, HABD.out.2.1]; exact hst)
    have hab : a ≤ b := by have := HAB.out; omega
    have hd1 : d ≤ 5 := by have := HABD.out.2.2; omega
    have HWF := Lib.hid hwf
    clear hwf hst
    obtain ⟨wo, hwo⟩ : ∃ wo, wo = wr := ⟨wr, rfl⟩
    have HWO := Lib.hid hwo
    go_wp2_with fail
    rw [← hwo] at HB hb0 hb1 hb2 hb3 hb4 ⊢
    clear hwo
    go_loopg [10, 11] (T.bs f).length (fun g s10 s11 wi => ∃ (p i : Nat) (q : Int), (T.bs f).length - p ≤ g ∧ i ≤ b ∧ -1 ≤ q ∧ q ≤ 400 ∧ s10 = .int .i64 q ∧ s11 = .int .i64 (i : Nat) ∧ Hid (i = a + p ∧ p ≤ (T.bs f).length) ∧ Hid (Met f k.toList a p q) ∧ Hid (Same wo wi))
    case atStart => exact ⟨0, a, -1, by omega, hab, by omega, by omega, rfl, rfl, Lib.hid ⟨rfl, Nat.zero_le _⟩, Lib.hid (met_zero _ _ _), Lib.hid (Same.refl _)⟩
    case round =>
      obtain ⟨p, i, q, hg2, hib, hq1, hq2, rfl, rfl, HIP, HMT, HSM⟩ := hrel
      have hcc : ∀ p, wr.cell? p = wo.cell? p := fun p => by obtain ⟨m, e⟩ := HSM.out; rw [e]; rfl
      rw [← hcc] at hb0 hb1 hb2 hb3 hb4
      clear hcc
      by_cases hlt : i < b
      · have hpl : p < (T.bs f).length := by have := HIP.out; have := HAB.out; omega
        have hbr : (T.bs f)[p]? = some (T.bs f)[p] := List.getElem?_eq_getElem hpl
        generalize hbb : (T.bs f)[p] = br at hbr
        obtain ⟨h1, h2, e1, e2⟩ := at_branch HSV.out HWY.out.at_ hbr
        have hiL : i < L.size := by omega
        have hie : T.start (T.forks keys) j + p = i := by rw [← HABD.out.1]; exact HIP.out.1.symm
        have e1' : L[i] = br.1 := by rw [← e1]; congr 1; exact hie.symm
        have hcmp : ((L.extract i (i + 1)).toList == (letS k d).toList) = decide (br.1 = T.letter k.toList f.deep) := by
          have hext : (L.extract i (i + 1)).toList = [L[i]] := by
            have hl2 : i < L.toList.length := by rw [len_L]; exact hiL
            rw [ext_l, Nat.add_sub_cancel_left, List.take_one, List.head?_drop, List.getElem?_eq_getElem hl2]
            have := at_L L i hiL
            rw [List.getD_eq_getElem?_getD, List.getElem?_eq_getElem hl2] at this
            simp only [Option.getD_some] at this
            rw [this]; rfl
          rw [hext, letS_l, e1', HABD.out.2.2]
          by_cases he : br.1 = T.letter k.toList f.deep
          · rw [he]; simp
          · simp [he]
        have h1' : (i : Int) < (b : Int) := by omega
        have h2' : (i : Int) < (L.size : Int) := by omega
        obtain ⟨i1, hi1⟩ : ∃ i1 : Nat, i1 = i + 1 := ⟨_, rfl⟩
        rw [← hi1] at hcmp
        have hw1 : IntKind.i64.wrap ((i : Int) + 1) = (i1 : Int) := by rw [IntWalk.i64_in _ ⟨by omega, by omega⟩]; omega
        have h3' : (0 : Int) ≤ (i : Int) := by omega
        have h4' : (i : Int) ≤ (i1 : Int) := by omega
        have h5' : (i1 : Int) ≤ (L.size : Int) := by omega
        have h6' : (0 : Int) ≤ (i1 : Int) := by omega
        have HI1 := Lib.hid hi1
        clear hi1
        have HBR := Lib.hid hbr
        clear h1 h2 e1 e2 e1' hie hbr hbb
        by_cases he : br.1 = T.letter k.toList f.deep
        · rw [decide_eq_true he] at hcmp
          have HN := Lib.hid (show Met f k.toList a (p + 1) (i : Int) by have := met_hit (st := a) HBR.out he; rw [← HIP.out.1] at this; exact this)
          clear he
          go_wp2_with fail
          go_quiet ((go_at_call 166; exact quiet_mine (letterS _ _ _ (by omega))))
          go_wp2
          go_roundg ((T.bs f).length - (p + 1))
          case measure => omega
          case rel => exact ⟨p + 1, i1, (i : Int), Nat.le_refl _, by have := HI1.out; omega, by omega, by omega, rfl, by first | rfl | (have := HI1.out; subst this; go_num), Lib.hid ⟨by have := HIP.out.1; have := HI1.out; omega, by omega⟩, HN, Lib.hid (HSM.out.drewN _)⟩
        · rw [decide_eq_false he] at hcmp
          have HN := Lib.hid (met_miss HMT.out HBR.out he)
          clear he
          go_wp2_with fail
          go_quiet ((go_at_call 166; exact quiet_mine (letterS _ _ _ (by omega))))
          go_wp2
          go_roundg ((T.bs f).length - (p + 1))
          case measure => omega
          case rel => exact ⟨p + 1, i1, q, Nat.le_refl _, by have := HI1.out; omega, by omega, by omega, rfl, by first | rfl | (have := HI1.out; subst this; go_num), Lib.hid ⟨by have := HIP.out.1; have := HI1.out; omega, by omega⟩, HN, Lib.hid (HSM.out.drewN _)⟩
      · have hie : i = b := by omega
        subst hie
        have h1' : ¬ (i : Int) < (i : Int) := by omega
        have hpe : p = (T.bs f).length := by have := HIP.out; have := HAB.out; omega
        have HBI := Lib.hid (HB.out.trans (HSM.out.below _))
        have HBW := Lib.hid (show Below w.heap.size w wr from ((Below.refl _ _).alloc (Nat.le_refl _) _).trans (HBI.out.mono (by omega)))
        have hn6 : ∃ n6, 6 - f.deep = n6 + 1 := ⟨5 - f.deep, by omega⟩
        obtain ⟨n6, hn6⟩ := hn6
        rcases HMT.out with ⟨hq, hno⟩ | ⟨i0, br, hq, hbr, hlt0, hi0⟩
        · subst hq
          have HL := Lib.hid (show (T.sepL keys).any (T.mayBe kp k.toList) = false by
            rw [HWY.out.has, hn6]
            refine T.lost HWF.out.1 n6 k.toList kp fun b' hb' => ?_
            obtain ⟨i', hi', rfl⟩ := List.mem_iff_getElem.mp hb'
            exact hno i' hi' (by rw [hpe]; exact hi'))
          clear hno hn6 hpe
          go_wp2
          go_ret3
          exact ⟨HBW.out, .inl ⟨rfl, HL.out⟩⟩
        · obtain ⟨k0, hk0⟩ : ∃ k0 : Nat, k0 = a + i0 := ⟨_, rfl⟩
          rw [← hk0] at hq
          subst hq
          obtain ⟨h1, h2, e1, e2⟩ := at_branch HSV.out HWY.out.at_ hbr
          have hke : T.start (T.forks keys) j + i0 = k0 := by rw [← HABD.out.1]; exact hk0.symm
          have hkM : k0 < M.size := by rw [← hke]; exact h2
          have hkL : k0 < L.size := by omega
          have e2' : M[k0] = T.bit (T.goes br) := by rw [← e2]; congr 1; exact hke.symm
          have hM8 := (M[k0]).toNat_lt
          have h3' : (k0 : Int) < (M.size : Int) := by omega
          have HKE := Lib.hid hke
          have HBR := Lib.hid hbr
          have HL0 := Lib.hid hlt0
          have HN6 := Lib.hid hn6
          clear h1 h2 e1 e2 hke hbr hlt0 hn6 hpe hk0 hi0
          rcases Bool.eq_false_or_eq_true (T.goes br) with hgo | hgo
          · have h49 : ((M[k0].toNat : Int) == 48) = false := by rw [e2', hgo]; rfl
            have HGO := Lib.hid hgo
            clear e2' hgo
            obtain ⟨cN, hcN, hjc, hkids⟩ := HT.out.kids kp HWY.out.at_ HBR.out HGO.out
            rw [HKE.out, ← HSV.out] at hkids
            have HKI := Lib.hid hkids
            have hf' := HT.out.wf _ (List.mem_of_getElem? hcN)
            have hd5' : f.deep + 1 ≤ 5 := hf'.2
            have HWN := Lib.hid (show OnWay (T.forks keys) kp k.toList keys cN ⟨br.2, f.deep + 1⟩ from ⟨hcN, T.found_alike HWF.out.1 HK.out HWY.out.alike (List.mem_of_getElem? HBR.out) HL0.out, by
              rw [HWY.out.has, HN6.out, T.found HWF.out.1 n6 k.toList kp (List.mem_of_getElem? HBR.out) HL0.out, if_pos HGO.out]
              have : 6 - (f.deep + 1) = n6 := by have := HN6.out; omega
              show _ = (T.leaves (6 - (f.deep + 1)) ⟨br.2, f.deep + 1⟩).any _
              rw [this]⟩)
            have hd2 : d = f.deep := HABD.out.2.2
            have HD2 := Lib.hid hd2
            clear hkids hcN hf' hd2
            go_wp2_with fail
            go_at_call 162
            refine (kidsS L M F A n0 c kp k0 wr (by omega) (by omega) (by omega)).mono ?_
            rintro e w2 ⟨rfl, hbel⟩
            rw [(kids_sv L M F l kp k0).1, (kids_sv L M F l kp k0).2, HKI.out]
            have hsz2 : w.heap.size + 1 ≤ wr.heap.size := by have h := HBI.out.size; simpa using h
            have HB2 := Lib.hid (HBI.out.trans (hbel.mono hsz2))
            clear hbel
            go_wp2
            go_roundg (5 - f.deep)
            case measure => omega
            case rel => exact ⟨cN, ⟨br.2, f.deep + 1⟩, _, _, d + 1, by show 5 - (f.deep + 1) < 5 - f.deep; omega, hd5', rfl, rfl, by go_num, Lib.hid ⟨rfl, rfl, by rw [HD2.out]⟩, HWN, HB2⟩
          · have h49 : ((M[k0].toNat : Int) == 48) = true := by rw [e2', hgo]; rfl
            have HGO := Lib.hid hgo
            have hd2 : d = f.deep := HABD.out.2.2
            have HD2 := Lib.hid hd2
            clear e2' hgo hd2
            by_cases hmin : d + 1 ≤ k.size
            · have hmin' : (d : Int) + 1 ≤ (k.size : Int) := by omega
              go_wp2
              go_ret3
              refine ⟨HBW.out, .inr ⟨j, i0, f, br, ?_, HWY.out, HBR.out, HGO.out, HL0.out⟩⟩
              rw [HKE.out, ← HD2.out, show min (d + 1) k.size = d + 1 by omega]
              rfl
            · have hmin' : ¬ (d : Int) + 1 ≤ (k.size : Int) := by omega
              go_wp2
              go_ret3
              refine ⟨HBW.out, .inr ⟨j, i0, f, br, ?_, HWY.out, HBR.out, HGO.out, HL0.out⟩⟩
              rw [HKE.out, ← HD2.out, show min (d + 1) k.size = k.size by omega]
              rfl

end Go.Proofs.YtfhpkcamigkmdaaGreatDoor.W
namespace Go.Proofs.YtfhpkcamigkmdaaGreatDoor.W
open Go.RowKit K

/-- what SieveHas answers -/
def hasO (L M F : ByteArray) (l : List ByteArray) (keep : Int) (k : ByteArray) : Bool := svB L M F l keep && (keyB k && T.hasK keep.toNat (svOf L M F l keep.toNat).heads k.toList)
theorem isKey_of {k : ByteArray} (h : keyB k = true) : T.isKey k.toList := by
  unfold keyB at h
  simp only [Bool.and_eq_true, decide_eq_true_eq, List.all_eq_true] at h
  refine ⟨by rw [len_L]; exact h.1, fun c hc => ?_⟩
  rw [ByteArray.toList_eq] at hc
  have := h.2 c hc
  unfold letterB at this
  simp only [Bool.and_eq_true, decide_eq_true_eq] at this
  exact this

set_option maxHeartbeats 2000000 in
theorem hasNo (L M F : ByteArray) (A : Option Addr) (n c : Nat) (l : List ByteArray) (keep : Int) (k : ByteArray) (w : World) (hL : L.size ≤ maxLen) (hM : M.size ≤ maxLen) (hF : F.size ≤ maxLen) (hkf : k.size ≤ maxLen) (hr : Strs w w.heap.size A n l) (hnc : n ≤ c) (hc : c ≤ maxLen) (hfit : ∀ i (h : i < l.length), l[i].size ≤ 1000000000000)
    (hno : svB L M F l keep = false ∨ keyB k = false ∨ L.size = 0) :
    Calls Tryz.prog 87 #[.agg #[.string L, .string M, .string F, .slice A n c, .int .i64 keep], .string k] w fun e w' => e = .returned (.bool false) ∧ Below w.heap.size w w' := by
  have hlen := hr.len
  subst hlen
  have HOK := Lib.hid (show ∀ W : World, Below w.heap.size w W → Calls Tryz.prog 120 #[.agg #[.string L, .string M, .string F, .slice A l.length c, .int .i64 keep]] W fun e w' => e = .returned (.bool (svB L M F l keep)) ∧ Below W.heap.size W w' from fun W hW =>
    okSv L M F A l.length c l keep W hL hM hF ((hr.below hW (Nat.le_refl _)).more hW.size) hnc hc hfit)
  have HKF := Lib.hid (show ∀ W : World, Calls Tryz.prog 66 #[.string k] W fun e w' => e = .returned (.bool (keyB k)) ∧ W = w' from fun W => keyS k W hkf)
  clear hr hfit
  rcases Bool.eq_false_or_eq_true (svB L M F l keep) with g1 | g1
  · rcases Bool.eq_false_or_eq_true (keyB k) with g2 | g2
    · have hz : L.size = 0 := by
        rcases hno with h | h | h
        · rw [g1] at h; cases h
        · rw [g2] at h; cases h
        · exact h
      rw [g1] at HOK
      rw [g2] at HKF
      clear hno g1 g2
      go_enter Tryz.func87, Tryz.ntmps87
      go_wp2_with (first
        | (go_at_call 120; refine Calls.mono (HOK.out _ (by exact (Below.refl _ _).alloc (Nat.le_refl _) _)) ?_; rintro e w1 ⟨rfl, hb1⟩; have a0 : w1.cell? ⟨w.heap.size, 0, none⟩ = some (.string L) := (by rw [cell_of_row _ _ _ _ _ _ ((hb1.block _ (by simp)).trans (heap_alloc_new _ _))]; rfl))
        | (go_at_call 66; refine (HKF.out _).mono ?_; rintro e w' ⟨rfl, rfl⟩))
      go_ret
      exact ⟨rfl, ((Below.refl _ _).alloc (Nat.le_refl _) _).trans (hb1.mono (by simp))⟩
    · rw [g1] at HOK
      rw [g2] at HKF
      clear hno g1 g2
      go_enter Tryz.func87, Tryz.ntmps87
      go_wp2_with (first
        | (go_at_call 120; refine Calls.mono (HOK.out _ (by exact (Below.refl _ _).alloc (Nat.le_refl _) _)) ?_; rintro e w1 ⟨rfl, hb1⟩)
        | (go_at_call 66; refine (HKF.out _).mono ?_; rintro e w' ⟨rfl, rfl⟩))
      go_ret
      exact ⟨rfl, ((Below.refl _ _).alloc (Nat.le_refl _) _).trans (hb1.mono (by simp))⟩
  · rw [g1] at HOK
    clear hno g1
    go_enter Tryz.func87, Tryz.ntmps87
    go_wp2_with (go_at_call 120; refine Calls.mono (HOK.out _ (by exact (Below.refl _ _).alloc (Nat.le_refl _) _)) ?_; rintro e w1 ⟨rfl, hb1⟩)
    go_ret
    exact ⟨rfl, ((Below.refl _ _).alloc (Nat.le_refl _) _).trans (hb1.mono (by simp))⟩

end Go.Proofs.YtfhpkcamigkmdaaGreatDoor.W
