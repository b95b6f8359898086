/-
  Contract of the model's l3Walk: the branch to which a key leads, at every filter of a key list.
  Contract of the model's SieveHas, at every filter and every string that Go can hold.
  Contract of the model's SieveHas at filters that are ones: the walk.
  What the model's SieveSeek and SieveMeets answer, in mathematics: no walk.
  Contract of the laws' comparison of two filters.
  Contract of the exact laws' comparison of two filters.
-/
import Derived.Test.YtakadkhgcjndmaaJ7
import Derived.Test.YtakadkhgcjndmaaJ2
namespace Go.Proofs.Ytakadkhgcjndmaa.W
open Go.RowKit K

/-- the way has come to fork f -/
structure OnWay (N : List T.Fork) (kp : Nat) (k : T.Str) (keys : List T.Str) (j : Nat) (f : T.Fork) : Prop where
  at_ : N[j]? = some f
  alike : ∀ x ∈ f.keys, x.take f.deep = k.take f.deep
  has : (T.sepL keys).any (T.mayBe kp k) = (T.leaves (6 - f.deep) f).any (T.mayBe kp k)
/-- the branches up to here: the one that has the letter, if it was met -/
def Met (f : T.Fork) (k : T.Str) (st p : Nat) (at_ : Int) : Prop :=
  (at_ = -1 ∧ ∀ i (h : i < (T.bs f).length), i < p → (T.bs f)[i].1 ≠ T.letter k f.deep) ∨ ∃ (i : Nat) (b : T.Br), at_ = (st + i : Nat) ∧ (T.bs f)[i]? = some b ∧ b.1 = T.letter k f.deep ∧ i < p
theorem met_zero (f : T.Fork) (k : T.Str) (st : Nat) : Met f k st 0 (-1) := .inl ⟨rfl, fun i _ h => by omega⟩
theorem met_hit {f : T.Fork} {k : T.Str} {st p : Nat} {b : T.Br} (hb : (T.bs f)[p]? = some b) (hl : b.1 = T.letter k f.deep) : Met f k st (p + 1) ((st + p : Nat) : Int) := .inr ⟨p, b, rfl, hb, hl, by omega⟩
theorem met_miss {f : T.Fork} {k : T.Str} {st p : Nat} {a : Int} {b : T.Br} (h : Met f k st p a) (hb : (T.bs f)[p]? = some b) (hl : ¬ b.1 = T.letter k f.deep) : Met f k st (p + 1) a := by
  rcases h with ⟨h1, h2⟩ | ⟨i, b', h1, h2, h3, h4⟩
  · refine .inl ⟨h1, fun i hi hip => ?_⟩
    rcases (by omega : i < p ∨ i = p) with e | e
    · exact h2 i hi e
    · subst e
      rw [List.getElem?_eq_getElem hi] at hb
      injection hb with hb
      rw [hb]; exact hl
  · exact .inr ⟨i, b', h1, h2, h3, by omega⟩
/-- what l3Walk answers -/
def WalkR (N : List T.Fork) (kp : Nat) (k : ByteArray) (keys : List T.Str) (w : World) (e : Ending) (w' : World) : Prop :=
  Below w.heap.size w w' ∧ ((e = .returned (.tuple #[.int .i64 0, .int .i64 0, .bool false]) ∧ (T.sepL keys).any (T.mayBe kp k.toList) = false) ∨
    ∃ (j p : Nat) (f : T.Fork) (b : T.Br), e = .returned (.tuple #[.int .i64 ((T.start N j + p : Nat) : Int), .int .i64 ((min (f.deep + 1) k.size : Nat) : Int), .bool true]) ∧ OnWay N kp k.toList keys j f ∧ (T.bs f)[p]? = some b ∧ T.goes b = false ∧ b.1 = T.letter k.toList f.deep)

set_option maxRecDepth 8000 in
set_option maxHeartbeats 4000000 in
theorem walkS (L M F : ByteArray) (A : Option Addr) (n0 c : Nat) (l : List ByteArray) (kp : Nat) (keys : List T.Str) (k : ByteArray) (w : World) (hK : T.KeyL keys) (hne : keys ≠ []) (hk : T.isKey k.toList) (hsv : svOf L M F l kp = T.enc kp (T.forks keys)) (hLM : M.size = L.size) (hF : F.size = L.size) (hL : L.size ≤ 400) :
    Calls Try.prog 93 #[.agg #[.string L, .string M, .string F, .slice A n0 c, .int .i64 kp], .string k] w (WalkR (T.forks keys) kp k keys w) := by
  obtain ⟨Tr, h0⟩ := T.tree_of hK hne
  have e2 : T.nodes (T.loads [⟨keys, 0⟩]) [⟨keys, 0⟩] = T.forks keys := rfl
  rw [e2] at Tr h0
  obtain ⟨t, ht⟩ : ∃ t : Nat, (t : Int) = oneOr F 1 := ⟨(svOf L M F l kp).sel 1, (oneOr_sel L M F l kp 1).symm⟩
  have hst : t = T.start (T.forks keys) 1 := by
    have h1 := T.sel_one hK hne kp
    have h3 : (svOf L M F l kp).sel 1 = (T.sieve kp keys).sel 1 := by rw [hsv]; rfl
    rw [oneOr_sel L M F l kp, h3, h1] at ht
    exact_mod_cast ht
  have HON := Lib.hid (show ∀ W : World, Calls Try.prog 100 #[.string F, .int .i64 1] W fun e w' => e = .returned (.int .i64 t) ∧ W = w' from fun W => by
    have hh := oneS F 1 W (by unfold maxLen; omega) (by omega) (by omega)
    have e1 : (1 : Int).toNat = 1 := rfl
    rw [e1, ← ht] at hh; exact hh)
  have HW0 := Lib.hid (show OnWay (T.forks keys) kp k.toList keys 0 ⟨keys, 0⟩ from ⟨h0, fun _ _ => rfl, rfl⟩)
  have HS0 := Lib.hid (T.start_zero (T.forks keys))
  have HT := Lib.hid Tr
  have HSV := Lib.hid hsv
  have HST := Lib.hid hst
  have hkl : k.size ≤ 5 := by have := hk.1; rw [len_L] at this; exact this
  have HK := Lib.hid hk
  clear hK hne hk hsv Tr h0 e2 ht hst
  go_enter Try.func93, Try.ntmps93
  go_wp2_with (go_at_call 100; refine (HON.out _).mono ?_; rintro e w' ⟨rfl, rfl⟩)
  go_loopg [7, 8, 9] 6 (fun g s7 s8 s9 wr => ∃ (j : Nat) (f : T.Fork) (a b d : Nat), 5 - f.deep < g ∧ f.deep ≤ 5 ∧ s7 = .int .i64 (a : Nat) ∧ s8 = .int .i64 (b : Nat) ∧ s9 = .int .i64 (d : Nat) ∧ Hid (a = T.start (T.forks keys) j ∧ b = T.start (T.forks keys) (j + 1) ∧ d = f.deep) ∧ Hid (OnWay (T.forks keys) kp k.toList keys j f) ∧ Hid (Below (w.heap.size + 1) (w.alloc (Obj.cells #[.string L, .string M, .string F, .slice A n0 c, .int .i64 kp] 27)) wr))
  case atStart => exact ⟨0, ⟨keys, 0⟩, 0, t, 0, by show 5 - 0 < 6; omega, Nat.zero_le _, rfl, rfl, rfl, Lib.hid ⟨HS0.out.symm, HST.out, rfl⟩, HW0, Lib.hid (Below.refl _ _)⟩
  case round =>
    obtain ⟨j, f, a, b, d, hgh, hd5, rfl, rfl, rfl, HABD, HWY, HB⟩ := hrel
    have hblk : wr.heap[w.heap.size]? = some (Obj.cells #[.string L, .string M, .string F, .slice A n0 c, .int .i64 kp] 27) := by rw [HB.out.block _ (by omega)]; exact heap_alloc_new _ _
    have hb0 : wr.cell? ⟨w.heap.size, 0, none⟩ = some (.string L) := by rw [cell_of_row _ _ _ _ _ _ hblk]; rfl
    have hb1 : wr.cell? ⟨w.heap.size, 1, none⟩ = some (.string M) := by rw [cell_of_row _ _ _ _ _ _ hblk]; rfl
    have hb2 : wr.cell? ⟨w.heap.size, 2, none⟩ = some (.string F) := by rw [cell_of_row _ _ _ _ _ _ hblk]; rfl
    have hb3 : wr.cell? ⟨w.heap.size, 3, none⟩ = some (.slice A n0 c) := by rw [cell_of_row _ _ _ _ _ _ hblk]; rfl
    have hb4 : wr.cell? ⟨w.heap.size, 4, none⟩ = some (.int .i64 kp) := by rw [cell_of_row _ _ _ _ _ _ hblk]; rfl
    clear hblk
    have hwf := HT.out.wf f (List.mem_of_getElem? HWY.out.at_)
    have hst := T.start_mono (T.forks keys) j f HWY.out.at_
    have hjl : j < (T.forks keys).length := (List.getElem?_eq_some_iff.mp HWY.out.at_).1
    have htot : b ≤ L.size := by
      have h1 := T.start_le (T.forks keys) (show j + 1 ≤ (T.forks keys).length by omega) (Nat.le_refl _)
      have e1 : L.toList = T.letters (T.forks keys) := congrArg T.Sv.letters HSV.out
      rw [← T.len_letters, ← e1, len_L, ← HABD.out.2.1] at h1
      exact h1
    have HAB := Lib.hid (show b = a + (T.bs f).length by rw [HABD.out.1, HABD.out.2.1]; exact hst)
    have hab : a ≤ b := by have := HAB.out; omega
    have hd1 : d ≤ 5 := by have := HABD.out.2.2; omega
    have HWF := Lib.hid hwf
    clear hwf hst
    obtain ⟨wo, hwo⟩ : ∃ wo, wo = wr := ⟨wr, rfl⟩
    have HWO := Lib.hid hwo
    go_wp2_with fail
    rw [← hwo] at HB hb0 hb1 hb2 hb3 hb4 ⊢
    clear hwo
    go_loopg [10, 11] (T.bs f).length (fun g s10 s11 wi => ∃ (p i : Nat) (q : Int), (T.bs f).length - p ≤ g ∧ i ≤ b ∧ -1 ≤ q ∧ q ≤ 400 ∧ s10 = .int .i64 q ∧ s11 = .int .i64 (i : Nat) ∧ Hid (i = a + p ∧ p ≤ (T.bs f).length) ∧ Hid (Met f k.toList a p q) ∧ Hid (Same wo wi))
    case atStart => exact ⟨0, a, -1, by omega, hab, by omega, by omega, rfl, rfl, Lib.hid ⟨rfl, Nat.zero_le _⟩, Lib.hid (met_zero _ _ _), Lib.hid (Same.refl _)⟩
    case round =>
      obtain ⟨p, i, q, hg2, hib, hq1, hq2, rfl, rfl, HIP, HMT, HSM⟩ := hrel
      have hcc : ∀ p, wr.cell? p = wo.cell? p := fun p => by obtain ⟨m, e⟩ := HSM.out; rw [e]; rfl
      rw [← hcc] at hb0 hb1 hb2 hb3 hb4
      clear hcc
      by_cases hlt : i < b
      · have hpl : p < (T.bs f).length := by have := HIP.out; have := HAB.out; omega
        have hbr : (T.bs f)[p]? = some (T.bs f)[p] := List.getElem?_eq_getElem hpl
        generalize hbb : (T.bs f)[p] = br at hbr
        obtain ⟨h1, h2, e1, e2⟩ := at_branch HSV.out HWY.out.at_ hbr
        have hiL : i < L.size := by omega
        have hie : T.start (T.forks keys) j + p = i := by rw [← HABD.out.1]; exact HIP.out.1.symm
        have e1' : L[i] = br.1 := by rw [← e1]; congr 1; exact hie.symm
        have hcmp : ((L.extract i (i + 1)).toList == (letS k d).toList) = decide (br.1 = T.letter k.toList f.deep) := by
          have hext : (L.extract i (i + 1)).toList = [L[i]] := by
            have hl2 : i < L.toList.length := by rw [len_L]; exact hiL
            rw [ext_l, Nat.add_sub_cancel_left, List.take_one, List.head?_drop, List.getElem?_eq_getElem hl2]
            have := at_L L i hiL
            rw [List.getD_eq_getElem?_getD, List.getElem?_eq_getElem hl2] at this
            simp only [Option.getD_some] at this
            rw [this]; rfl
          rw [hext, letS_l, e1', HABD.out.2.2]
          by_cases he : br.1 = T.letter k.toList f.deep
          · rw [he]; simp
          · simp [he]
        have h1' : (i : Int) < (b : Int) := by omega
        have h2' : (i : Int) < (L.size : Int) := by omega
        obtain ⟨i1, hi1⟩ : ∃ i1 : Nat, i1 = i + 1 := ⟨_, rfl⟩
        rw [← hi1] at hcmp
        have hw1 : IntKind.i64.wrap ((i : Int) + 1) = (i1 : Int) := by rw [IntWalk.i64_in _ ⟨by omega, by omega⟩]; omega
        have h3' : (0 : Int) ≤ (i : Int) := by omega
        have h4' : (i : Int) ≤ (i1 : Int) := by omega
        have h5' : (i1 : Int) ≤ (L.size : Int) := by omega
        have h6' : (0 : Int) ≤ (i1 : Int) := by omega
        have HI1 := Lib.hid hi1
        clear hi1
        have HBR := Lib.hid hbr
        clear h1 h2 e1 e2 e1' hie hbr hbb
        by_cases he : br.1 = T.letter k.toList f.deep
        · rw [decide_eq_true he] at hcmp
          have HN := Lib.hid (show Met f k.toList a (p + 1) (i : Int) by have := met_hit (st := a) HBR.out he; rw [← HIP.out.1] at this; exact this)
          clear he
          go_wp2_with fail
          go_quiet ((go_at_call 109; exact quiet_mine (letterS _ _ _ (by omega))))
          go_wp2
          go_roundg ((T.bs f).length - (p + 1))
          case measure => omega
          case rel => exact ⟨p + 1, i1, (i : Int), Nat.le_refl _, by have := HI1.out; omega, by omega, by omega, rfl, by first | rfl | (have := HI1.out; subst this; go_num), Lib.hid ⟨by have := HIP.out.1; have := HI1.out; omega, by omega⟩, HN, Lib.hid (HSM.out.drewN _)⟩
        · rw [decide_eq_false he] at hcmp
          have HN := Lib.hid (met_miss HMT.out HBR.out he)
          clear he
          go_wp2_with fail
          go_quiet ((go_at_call 109; exact quiet_mine (letterS _ _ _ (by omega))))
          go_wp2
          go_roundg ((T.bs f).length - (p + 1))
          case measure => omega
          case rel => exact ⟨p + 1, i1, q, Nat.le_refl _, by have := HI1.out; omega, by omega, by omega, rfl, by first | rfl | (have := HI1.out; subst this; go_num), Lib.hid ⟨by have := HIP.out.1; have := HI1.out; omega, by omega⟩, HN, Lib.hid (HSM.out.drewN _)⟩
      · have hie : i = b := by omega
        subst hie
        have h1' : ¬ (i : Int) < (i : Int) := by omega
        have hpe : p = (T.bs f).length := by have := HIP.out; have := HAB.out; omega
        have HBI := Lib.hid (HB.out.trans (HSM.out.below _))
        have HBW := Lib.hid (show Below w.heap.size w wr from ((Below.refl _ _).alloc (Nat.le_refl _) _).trans (HBI.out.mono (by omega)))
        have hn6 : ∃ n6, 6 - f.deep = n6 + 1 := ⟨5 - f.deep, by omega⟩
        obtain ⟨n6, hn6⟩ := hn6
        rcases HMT.out with ⟨hq, hno⟩ | ⟨i0, br, hq, hbr, hlt0, hi0⟩
        · subst hq
          have HL := Lib.hid (show (T.sepL keys).any (T.mayBe kp k.toList) = false by
            rw [HWY.out.has, hn6]
            refine T.lost HWF.out.1 n6 k.toList kp fun b' hb' => ?_
            obtain ⟨i', hi', rfl⟩ := List.mem_iff_getElem.mp hb'
            exact hno i' hi' (by rw [hpe]; exact hi'))
          clear hno hn6 hpe
          go_wp2
          go_ret3
          exact ⟨HBW.out, .inl ⟨rfl, HL.out⟩⟩
        · obtain ⟨k0, hk0⟩ : ∃ k0 : Nat, k0 = a + i0 := ⟨_, rfl⟩
          rw [← hk0] at hq
          subst hq
          obtain ⟨h1, h2, e1, e2⟩ := at_branch HSV.out HWY.out.at_ hbr
          have hke : T.start (T.forks keys) j + i0 = k0 := by rw [← HABD.out.1]; exact hk0.symm
          have hkM : k0 < M.size := by rw [← hke]; exact h2
          have hkL : k0 < L.size := by omega
          have e2' : M[k0] = T.bit (T.goes br) := by rw [← e2]; congr 1; exact hke.symm
          have hM8 := (M[k0]).toNat_lt
          have h3' : (k0 : Int) < (M.size : Int) := by omega
          have HKE := Lib.hid hke
          have HBR := Lib.hid hbr
          have HL0 := Lib.hid hlt0
          have HN6 := Lib.hid hn6
          clear h1 h2 e1 e2 hke hbr hlt0 hn6 hpe hk0 hi0
          rcases Bool.eq_false_or_eq_true (T.goes br) with hgo | hgo
          · have h49 : ((M[k0].toNat : Int) == 48) = false := by rw [e2', hgo]; rfl
            have HGO := Lib.hid hgo
            clear e2' hgo
            obtain ⟨cN, hcN, hjc, hkids⟩ := HT.out.kids kp HWY.out.at_ HBR.out HGO.out
            rw [HKE.out, ← HSV.out] at hkids
            have HKI := Lib.hid hkids
            have hf' := HT.out.wf _ (List.mem_of_getElem? hcN)
            have hd5' : f.deep + 1 ≤ 5 := hf'.2
            have HWN := Lib.hid (show OnWay (T.forks keys) kp k.toList keys cN ⟨br.2, f.deep + 1⟩ from ⟨hcN, T.found_alike HWF.out.1 HK.out HWY.out.alike (List.mem_of_getElem? HBR.out) HL0.out, by
              rw [HWY.out.has, HN6.out, T.found HWF.out.1 n6 k.toList kp (List.mem_of_getElem? HBR.out) HL0.out, if_pos HGO.out]
              have : 6 - (f.deep + 1) = n6 := by have := HN6.out; omega
              show _ = (T.leaves (6 - (f.deep + 1)) ⟨br.2, f.deep + 1⟩).any _
              rw [this]⟩)
            have hd2 : d = f.deep := HABD.out.2.2
            have HD2 := Lib.hid hd2
            clear hkids hcN hf' hd2
            go_wp2_with fail
            go_at_call 126
            refine (kidsS L M F A n0 c kp k0 wr (by omega) (by omega) (by omega)).mono ?_
            rintro e w2 ⟨rfl, hbel⟩
            rw [(kids_sv L M F l kp k0).1, (kids_sv L M F l kp k0).2, HKI.out]
            have hsz2 : w.heap.size + 1 ≤ wr.heap.size := by have h := HBI.out.size; simpa using h
            have HB2 := Lib.hid (HBI.out.trans (hbel.mono hsz2))
            clear hbel
            go_wp2
            go_roundg (5 - f.deep)
            case measure => omega
            case rel => exact ⟨cN, ⟨br.2, f.deep + 1⟩, _, _, d + 1, by show 5 - (f.deep + 1) < 5 - f.deep; omega, hd5', rfl, rfl, by go_num, Lib.hid ⟨rfl, rfl, by rw [HD2.out]⟩, HWN, HB2⟩
          · have h49 : ((M[k0].toNat : Int) == 48) = true := by rw [e2', hgo]; rfl
            have HGO := Lib.hid hgo
            have hd2 : d = f.deep := HABD.out.2.2
            have HD2 := Lib.hid hd2
            clear e2' hgo hd2
            by_cases hmin : d + 1 ≤ k.size
            · have hmin' : (d : Int) + 1 ≤ (k.size : Int) := by omega
              go_wp2
              go_ret3
              refine ⟨HBW.out, .inr ⟨j, i0, f, br, ?_, HWY.out, HBR.out, HGO.out, HL0.out⟩⟩
              rw [HKE.out, ← HD2.out, show min (d + 1) k.size = d + 1 by omega]
              rfl
            · have hmin' : ¬ (d : Int) + 1 ≤ (k.size : Int) := by omega
              go_wp2
              go_ret3
              refine ⟨HBW.out, .inr ⟨j, i0, f, br, ?_, HWY.out, HBR.out, HGO.out, HL0.out⟩⟩
              rw [HKE.out, ← HD2.out, show min (d + 1) k.size = k.size by omega]
              rfl

end Go.Proofs.Ytakadkhgcjndmaa.W

namespace Go.Proofs.Ytakadkhgcjndmaa.W
open Go.RowKit K

/-- what SieveHas answers -/
def hasO (L M F : ByteArray) (l : List ByteArray) (keep : Int) (k : ByteArray) : Bool := svB L M F l keep && (keyB k && T.hasK keep.toNat (svOf L M F l keep.toNat).heads k.toList)
theorem isKey_of {k : ByteArray} (h : keyB k = true) : T.isKey k.toList := by
  unfold keyB at h
  simp only [Bool.and_eq_true, decide_eq_true_eq, List.all_eq_true] at h
  refine ⟨by rw [len_L]; exact h.1, fun c hc => ?_⟩
  rw [ByteArray.toList_eq] at hc
  have := h.2 c hc
  unfold letterB at this
  simp only [Bool.and_eq_true, decide_eq_true_eq] at this
  exact this

set_option maxHeartbeats 2000000 in
theorem hasNo (L M F : ByteArray) (A : Option Addr) (n c : Nat) (l : List ByteArray) (keep : Int) (k : ByteArray) (w : World) (hL : L.size ≤ maxLen) (hM : M.size ≤ maxLen) (hF : F.size ≤ maxLen) (hkf : k.size ≤ maxLen) (hr : Strs w w.heap.size A n l) (hnc : n ≤ c) (hc : c ≤ maxLen) (hfit : ∀ i (h : i < l.length), l[i].size ≤ 1000000000000)
    (hno : svB L M F l keep = false ∨ keyB k = false ∨ L.size = 0) :
    Calls Try.prog 44 #[.agg #[.string L, .string M, .string F, .slice A n c, .int .i64 keep], .string k] w fun e w' => e = .returned (.bool false) ∧ Below w.heap.size w w' := by
  have hlen := hr.len
  subst hlen
  have HOK := Lib.hid (show ∀ W : World, Below w.heap.size w W → Calls Try.prog 39 #[.agg #[.string L, .string M, .string F, .slice A l.length c, .int .i64 keep]] W fun e w' => e = .returned (.bool (svB L M F l keep)) ∧ Below W.heap.size W w' from fun W hW =>
    okSv L M F A l.length c l keep W hL hM hF ((hr.below hW (Nat.le_refl _)).more hW.size) hnc hc hfit)
  have HKF := Lib.hid (show ∀ W : World, Calls Try.prog 45 #[.string k] W fun e w' => e = .returned (.bool (keyB k)) ∧ W = w' from fun W => keyS k W hkf)
  clear hr hfit
  rcases Bool.eq_false_or_eq_true (svB L M F l keep) with g1 | g1
  · rcases Bool.eq_false_or_eq_true (keyB k) with g2 | g2
    · have hz : L.size = 0 := by
        rcases hno with h | h | h
        · rw [g1] at h; cases h
        · rw [g2] at h; cases h
        · exact h
      rw [g1] at HOK
      rw [g2] at HKF
      clear hno g1 g2
      go_enter Try.func44, Try.ntmps44
      go_wp2_with (first
        | (go_at_call 39; refine Calls.mono (HOK.out _ (by exact (Below.refl _ _).alloc (Nat.le_refl _) _)) ?_; rintro e w1 ⟨rfl, hb1⟩; have a0 : w1.cell? ⟨w.heap.size, 0, none⟩ = some (.string L) := (by rw [cell_of_row _ _ _ _ _ _ ((hb1.block _ (by simp)).trans (heap_alloc_new _ _))]; rfl))
        | (go_at_call 45; refine (HKF.out _).mono ?_; rintro e w' ⟨rfl, rfl⟩))
      go_ret
      exact ⟨rfl, ((Below.refl _ _).alloc (Nat.le_refl _) _).trans (hb1.mono (by simp))⟩
    · rw [g1] at HOK
      rw [g2] at HKF
      clear hno g1 g2
      go_enter Try.func44, Try.ntmps44
      go_wp2_with (first
        | (go_at_call 39; refine Calls.mono (HOK.out _ (by exact (Below.refl _ _).alloc (Nat.le_refl _) _)) ?_; rintro e w1 ⟨rfl, hb1⟩)
        | (go_at_call 45; refine (HKF.out _).mono ?_; rintro e w' ⟨rfl, rfl⟩))
      go_ret
      exact ⟨rfl, ((Below.refl _ _).alloc (Nat.le_refl _) _).trans (hb1.mono (by simp))⟩
  · rw [g1] at HOK
    clear hno g1
    go_enter Try.func44, Try.ntmps44
    go_wp2_with (go_at_call 39; refine Calls.mono (HOK.out _ (by exact (Below.refl _ _).alloc (Nat.le_refl _) _)) ?_; rintro e w1 ⟨rfl, hb1⟩)
    go_ret
    exact ⟨rfl, ((Below.refl _ _).alloc (Nat.le_refl _) _).trans (hb1.mono (by simp))⟩

end Go.Proofs.Ytakadkhgcjndmaa.W

namespace Go.Proofs.Ytakadkhgcjndmaa.W
open Go.RowKit K

/-- what lies at the end of the way -/
theorem end_parts {L M F : ByteArray} {l : List ByteArray} {kp : Nat} {keys : List T.Str} {k : ByteArray} (hK : T.KeyL keys) (hne : keys ≠ []) (hk : T.isKey k.toList) (hsv : svOf L M F l kp = T.enc kp (T.forks keys)) {j p : Nat} {f : T.Fork} {b : T.Br} (hw : OnWay (T.forks keys) kp k.toList keys j f) (hb : (T.bs f)[p]? = some b) (hg : T.goes b = false) (hl : b.1 = T.letter k.toList f.deep) :
    ∃ (q : Nat) (hq : q < l.length) (hkL : T.start (T.forks keys) j + p < L.size) (_hkM : T.start (T.forks keys) j + p < M.size), (q : Int) = (T.start (T.forks keys) j + p : Nat) - cntI M (T.start (T.forks keys) j + p) ∧
      (T.sepL keys).any (T.mayBe kp k.toList) = (if (decide (L[T.start (T.forks keys) j + p].toNat = 45) || decide ((l[q].size : Int) < kp)) = true then (k.extract (min (f.deep + 1) k.size) k.size).toList == l[q].toList else begB (k.extract (min (f.deep + 1) k.size) k.size) l[q]) := by
  obtain ⟨Tr, h0⟩ := T.tree_of hK hne
  have e2 : T.nodes (T.loads [⟨keys, 0⟩]) [⟨keys, 0⟩] = T.forks keys := rfl
  rw [e2] at Tr h0
  obtain ⟨h1, h2, e1, -⟩ := at_branch hsv hw.at_ hb
  obtain ⟨x, hx, -, -, hrest⟩ := T.leaf_at Tr kp hw.at_ hb hg
  have er : l.map (·.toList) = T.rests kp (T.forks keys) := congrArg T.Sv.rests hsv
  have em : M.toList = T.more (T.forks keys) := congrArg T.Sv.more hsv
  rw [← er, ← em] at hrest
  generalize T.start (T.forks keys) j + p = k0 at h1 h2 e1 hrest
  have hbd := cntI_bd M k0
  have hce : cntI M k0 = (M_ones M k0 : Nat) := by unfold cntI M_ones; rw [ones_M]
  have hrest' : (l.map (·.toList))[k0 - M_ones M k0]? = some (T.restOf x (f.deep + 1) kp) := hrest
  rw [List.getElem?_map] at hrest'
  have hql : k0 - M_ones M k0 < l.length := by
    rcases Nat.lt_or_ge (k0 - M_ones M k0) l.length with h | h
    · exact h
    · rw [List.getElem?_eq_none h] at hrest'; simp at hrest'
  rw [List.getElem?_eq_getElem hql] at hrest'
  have hlq : l[k0 - M_ones M k0].toList = T.restOf x (f.deep + 1) kp := by simpa using hrest'
  refine ⟨k0 - M_ones M k0, hql, h1, h2, by omega, ?_⟩
  have hwf := Tr.wf f (List.mem_of_getElem? hw.at_)
  have hn6 : 6 - f.deep = (5 - f.deep) + 1 := by have := hwf.2; omega
  rw [hw.has, hn6, T.found hwf.1 (5 - f.deep) k.toList kp (List.mem_of_getElem? hb) hl, if_neg (by rw [hg]; simp), hx]
  have hone : (List.map (fun y => (y, f.deep + 1)) [x]).any (T.mayBe kp k.toList) = T.mayBe kp k.toList (x, f.deep + 1) := by simp
  rw [hone, ← T.end_is hwf.1 hk hw.alike (List.mem_of_getElem? hb) hl hx kp, ← hlq]
  generalize l[k0 - M_ones M k0] = r
  have hdrop : (k.extract (min (f.deep + 1) k.size) k.size).toList = k.toList.drop (min (f.deep + 1) k.toList.length) := by
    rw [ext_l, len_L, List.take_of_length_le (by rw [List.length_drop, len_L]; omega)]
  have hcond : (decide (L[k0].toNat = 45) || decide ((r.size : Int) < kp)) = true ↔ (b.1 = 45 ∨ r.toList.length < kp) := by
    rw [len_L]
    simp only [Bool.or_eq_true, decide_eq_true_eq]
    constructor
    · rintro (h | h)
      · left; rw [← e1]; exact UInt8.toNat_inj.mp (by show L[k0].toNat = 45; exact h)
      · right; omega
    · rintro (h | h)
      · left; rw [e1, h]; rfl
      · right; omega
  unfold T.endHas
  by_cases hc : b.1 = 45 ∨ r.toList.length < kp
  · rw [if_pos hc, if_pos (hcond.mpr hc), hdrop]
  · rw [if_neg hc, if_neg (fun h => hc (hcond.mp h))]
    unfold begB
    have hs : (k.extract (min (f.deep + 1) k.size) k.size).size = (k.toList.drop (min (f.deep + 1) k.toList.length)).length := by rw [← hdrop, len_L]
    rw [ext_l, hdrop, hs, len_L, List.drop_zero, Nat.sub_zero]

set_option maxRecDepth 8000 in
set_option maxHeartbeats 4000000 in
theorem hasYes (L M F : ByteArray) (A : Option Addr) (n c : Nat) (l : List ByteArray) (kp : Nat) (k : ByteArray) (w : World) (hL : L.size ≤ maxLen) (hM : M.size ≤ maxLen) (hF : F.size ≤ maxLen) (hkf : k.size ≤ maxLen) (hr : Strs w w.heap.size A n l) (hnc : n ≤ c) (hc : c ≤ maxLen) (hfit : ∀ i (h : i < l.length), l[i].size ≤ 1000000000000) (hsv : svB L M F l kp = true) (hky : keyB k = true) (hz : L.size ≠ 0) :
    Calls Try.prog 44 #[.agg #[.string L, .string M, .string F, .slice A n c, .int .i64 kp], .string k] w fun e w' => e = .returned (.bool (T.hasK kp (svOf L M F l kp).heads k.toList)) ∧ Below w.heap.size w w' := by
  have hlen := hr.len
  subst hlen
  have his := svB_is hsv
  obtain ⟨hK, h24, -, heq⟩ := his
  have heq' : svOf L M F l kp = T.enc kp (T.forks (svOf L M F l kp).heads) := heq
  have hne : (svOf L M F l kp).heads ≠ [] := fun e => hz (by
    have h1 := congrArg (fun s => s.letters.length) (show svOf L M F l kp = T.sieve kp (svOf L M F l kp).heads from heq)
    simp only [e, T.sieve_nil] at h1
    rw [← len_L]; exact h1)
  have hfo : formB L M F l.length kp = true := by
    have h := hsv
    unfold svB at h; rw [Bool.and_eq_true] at h; exact h.1
  obtain ⟨p1, p2, p3, p4, p5, p6⟩ := form_parts hfo
  have HR := Lib.hid hr
  have HFI := Lib.hid hfit
  have HOK := Lib.hid (show ∀ W : World, Below w.heap.size w W → Calls Try.prog 39 #[.agg #[.string L, .string M, .string F, .slice A l.length c, .int .i64 kp]] W fun e w' => e = .returned (.bool true) ∧ Below W.heap.size W w' from fun W hW => by
    have hh := okSv L M F A l.length c l kp W hL hM hF ((hr.below hW (Nat.le_refl _)).more hW.size) hnc hc hfit
    rw [hsv] at hh; exact hh)
  have HKF := Lib.hid (show ∀ W : World, Calls Try.prog 45 #[.string k] W fun e w' => e = .returned (.bool true) ∧ W = w' from fun W => by have hh := keyS k W hkf; rw [hky] at hh; exact hh)
  have hk5 : k.size ≤ 5 := by have h := hky; unfold keyB at h; simp only [Bool.and_eq_true, decide_eq_true_eq] at h; exact h.1
  have HWK := Lib.hid (fun W => walkS L M F A l.length c l kp (svOf L M F l kp).heads k W hK hne (isKey_of hky) heq' p1 p2 p3)
  have HHK := Lib.hid (T.hasK_eq hK kp k.toList)
  have HEP := Lib.hid (fun (j p : Nat) (f : T.Fork) (b : T.Br) => end_parts (L := L) (M := M) (F := F) (l := l) (k := k) (j := j) (p := p) (f := f) (b := b) hK hne (isKey_of hky) heq')
  have hzi : ¬ (L.size : Int) = 0 := by omega
  generalize (svOf L M F l kp).heads = keys at HWK HHK HEP ⊢
  clear hr hfit hsv hky hK h24 heq heq' hne hfo
  go_enter Try.func44, Try.ntmps44
  go_wp2_with fail
  go_at_call 39
  refine Calls.mono (HOK.out _ (by exact (Below.refl _ _).alloc (Nat.le_refl _) _)) ?_
  rintro e w1 ⟨rfl, hb1⟩
  have hbx : w1.heap[w.heap.size]? = some (Obj.cells #[.string L, .string M, .string F, .slice A l.length c, .int .i64 kp] 27) := by rw [hb1.block _ (by simp)]; exact heap_alloc_new _ _
  have hbw : Below w.heap.size w w1 := ((Below.refl _ _).alloc (Nat.le_refl _) _).trans (hb1.mono (by simp))
  have hs1 : w.heap.size < w1.heap.size := (Array.getElem?_eq_some_iff.1 hbx).1
  have a0 : w1.cell? ⟨w.heap.size, 0, none⟩ = some (.string L) := by rw [cell_of_row _ _ _ _ _ _ hbx]; rfl
  have a1 : w1.cell? ⟨w.heap.size, 1, none⟩ = some (.string M) := by rw [cell_of_row _ _ _ _ _ _ hbx]; rfl
  have a2 : w1.cell? ⟨w.heap.size, 2, none⟩ = some (.string F) := by rw [cell_of_row _ _ _ _ _ _ hbx]; rfl
  have a3 : w1.cell? ⟨w.heap.size, 3, none⟩ = some (.slice A l.length c) := by rw [cell_of_row _ _ _ _ _ _ hbx]; rfl
  have a4 : w1.cell? ⟨w.heap.size, 4, none⟩ = some (.int .i64 kp) := by rw [cell_of_row _ _ _ _ _ _ hbx]; rfl
  have HBX := Lib.hid hbx
  have HBW := Lib.hid hbw
  clear hbx hbw hb1
  go_wp2_with (first
    | (go_at_call 45; refine (HKF.out _).mono ?_; rintro e w' ⟨rfl, rfl⟩)
    | (go_at_call 93; fail))
  go_at_call 93
  refine (HWK.out _).mono ?_
  rintro e w2 ⟨hb2, ⟨rfl, hno⟩ | ⟨j, p, f, b, rfl, how, hbr, hgo, hlt⟩⟩
  · have HNO := Lib.hid hno
    have HBW2 := Lib.hid (HBW.out.trans (hb2.mono (by omega)))
    clear hno hb2
    go_wp2
    go_ret
    exact ⟨ret_bool (by rw [← HHK.out, HNO.out]), HBW2.out⟩
  · obtain ⟨q, hq, hkL, hkM, hqe, hres⟩ := HEP.out j p f b how hbr hgo hlt
    clear how hbr hgo hlt
    have hdd : min (f.deep + 1) k.size ≤ k.size := Nat.min_le_right _ _
    generalize min (f.deep + 1) k.size = dd at hdd hres ⊢
    generalize T.start (T.forks keys) j + p = k0 at hkL hkM hqe hres ⊢
    have hbx2 : w2.heap[w.heap.size]? = some (Obj.cells #[.string L, .string M, .string F, .slice A l.length c, .int .i64 kp] 27) := by rw [hb2.block _ hs1]; exact HBX.out
    have hs2 : w1.heap.size ≤ w2.heap.size := hb2.size
    have HBW2 := Lib.hid (HBW.out.trans (hb2.mono (by omega)))
    clear a0 a1 a2 a3 a4
    have a0 : w2.cell? ⟨w.heap.size, 0, none⟩ = some (.string L) := by rw [cell_of_row _ _ _ _ _ _ hbx2]; rfl
    have a1 : w2.cell? ⟨w.heap.size, 1, none⟩ = some (.string M) := by rw [cell_of_row _ _ _ _ _ _ hbx2]; rfl
    have a2 : w2.cell? ⟨w.heap.size, 2, none⟩ = some (.string F) := by rw [cell_of_row _ _ _ _ _ _ hbx2]; rfl
    have a3 : w2.cell? ⟨w.heap.size, 3, none⟩ = some (.slice A l.length c) := by rw [cell_of_row _ _ _ _ _ _ hbx2]; rfl
    have a4 : w2.cell? ⟨w.heap.size, 4, none⟩ = some (.int .i64 kp) := by rw [cell_of_row _ _ _ _ _ _ hbx2]; rfl
    obtain ⟨b0, off, hA, hbb, hcell⟩ := (HR.out.below HBW2.out (Nat.le_refl _)).cell q hq
    subst hA
    obtain ⟨r, hrr⟩ : ∃ r : Int, r = cntI M k0 := ⟨_, rfl⟩
    have hbd := cntI_bd M k0
    rw [← hrr] at hbd
    have HON1 := Lib.hid (show ∀ W : World, Calls Try.prog 94 #[.string M, .int .i64 k0] W fun e w' => e = .returned (.int .i64 r) ∧ W = w' from fun W => by
      have hh := onesS M k0 W (by unfold maxLen; omega) (by omega) (by omega)
      rw [Int.toNat_natCast, ← hrr] at hh; exact hh)
    have HRS := Lib.hid (HR.out.below HBW2.out (Nat.le_refl _))
    have HWH := Lib.hid (show ∀ m, Calls Try.prog 95 #[.agg #[.string L, .string M, .string F, .slice (some ⟨b0, off, none⟩) l.length c, .int .i64 kp], .int .i64 k0] (w2.drewN m) fun e w' => e = .returned (.bool (decide (L[k0].toNat = 45) || decide ((l[q].size : Int) < kp))) ∧ Below w2.heap.size (w2.drewN m) w' from fun m =>
      wholeS L M F _ l.length c kp k0 q w.heap.size l (w2.drewN m) (by omega) (by omega) hkL (HRS.out.drewN m) (by show w.heap.size ≤ w2.heap.size; omega) (by omega) hqe hq)
    rw [← hrr] at hqe
    have hsub : IntKind.i64.wrap ((k0 : Int) - r) = (q : Int) := by rw [IntWalk.i64_in _ ⟨by omega, by omega⟩]; omega
    have hx0 : (0 : Int) ≤ (q : Int) := by omega
    have hx1 : (q : Int) < (l.length : Int) := by omega
    have HRES := Lib.hid hres
    have HQE := Lib.hid hqe
    have hls : l[q].size ≤ 1000000000006 := by have := HFI.out q hq; omega
    obtain ⟨rs, hrs⟩ : ∃ rs, rs = l[q] := ⟨_, rfl⟩
    obtain ⟨wb, hwb⟩ : ∃ wb, wb = (decide (L[k0].toNat = 45) || decide ((l[q].size : Int) < kp)) := ⟨_, rfl⟩
    rw [← hwb] at HWH HRES
    rw [← hrs] at hcell HRES
    clear hbx2 hb2 hres hqe hrr hwb hrs
    have hddi : (dd : Int) ≤ (k.size : Int) := by omega
    go_wp2_with fail
    go_quiet ((go_at_call 94; exact quiet_mine (HON1.out _)))
    go_wp2_with fail
    go_at_call 95
    refine (HWH.out _).mono ?_
    rintro e w3 ⟨rfl, hb3⟩
    have HBW3 := Lib.hid (show Below w.heap.size w w3 from HBW2.out.trans ((Same.below ⟨_, rfl⟩ w.heap.size).trans (hb3.mono (by omega))))
    clear hb3 a0 a1 a2 a3 a4
    cases wb with
    | true =>
      go_wp2
      go_ret
      exact ⟨ret_bool (by rw [← HHK.out, HRES.out]; simp), HBW3.out⟩
    | false =>
      have HBG := Lib.hid (show ∀ W : World, Calls Try.prog 96 #[.string (k.extract dd k.size), .string rs] W fun e w' => e = .returned (.bool (begB (k.extract dd k.size) rs)) ∧ W = w' from fun W => begS _ _ W)
      go_wp2_with (go_at_call 96; refine (HBG.out _).mono ?_; rintro e w' ⟨rfl, rfl⟩)
      go_ret
      exact ⟨ret_bool (by rw [← HHK.out, HRES.out, if_neg (by simp)]), HBW3.out⟩

/-- the model's SieveHas -/
theorem hasSv (L M F : ByteArray) (A : Option Addr) (n c : Nat) (l : List ByteArray) (keep : Int) (k : ByteArray) (w : World) (hL : L.size ≤ maxLen) (hM : M.size ≤ maxLen) (hF : F.size ≤ maxLen) (hkf : k.size ≤ maxLen) (hr : Strs w w.heap.size A n l) (hnc : n ≤ c) (hc : c ≤ maxLen) (hfit : ∀ i (h : i < l.length), l[i].size ≤ 1000000000000) :
    Calls Try.prog 44 #[.agg #[.string L, .string M, .string F, .slice A n c, .int .i64 keep], .string k] w fun e w' => e = .returned (.bool (hasO L M F l keep k)) ∧ Below w.heap.size w w' := by
  rcases Bool.eq_false_or_eq_true (svB L M F l keep) with g1 | g1
  · rcases Bool.eq_false_or_eq_true (keyB k) with g2 | g2
    · have hfo : formB L M F l.length keep = true := by
        have h := g1
        unfold svB at h; rw [Bool.and_eq_true] at h; exact h.1
      obtain ⟨-, -, -, -, p5, -⟩ := form_parts hfo
      obtain ⟨kp, rfl⟩ := Int.eq_ofNat_of_zero_le p5
      have e : hasO L M F l kp k = T.hasK kp (svOf L M F l kp).heads k.toList := by unfold hasO; rw [g1, g2, Int.toNat_natCast]; rfl
      rw [e]
      by_cases hz : L.size = 0
      · have hh : (svOf L M F l kp).heads = [] := by
          have h1 := hs_len (L := L) (M := M) (F := F) (l := l) (kp := kp) (form_parts hfo).1
          unfold hsOf at h1
          rw [List.length_map] at h1
          exact List.eq_nil_of_length_eq_zero (by omega)
        have e2 : T.hasK kp (svOf L M F l kp).heads k.toList = false := by rw [hh]; rfl
        rw [e2]
        exact hasNo L M F A n c l kp k w hL hM hF hkf hr hnc hc hfit (.inr (.inr hz))
      · exact hasYes L M F A n c l kp k w hL hM hF hkf hr hnc hc hfit g1 g2 hz
    · have e : hasO L M F l keep k = false := by unfold hasO; rw [g2]; simp
      rw [e]
      exact hasNo L M F A n c l keep k w hL hM hF hkf hr hnc hc hfit (.inr (.inl g2))
  · have e : hasO L M F l keep k = false := by unfold hasO; rw [g1]; rfl
    rw [e]
    exact hasNo L M F A n c l keep k w hL hM hF hkf hr hnc hc hfit (.inl g1)

end Go.Proofs.Ytakadkhgcjndmaa.W

namespace Go.Proofs.Ytakadkhgcjndmaa.T
/-- what a filter keeps of what it keeps is all of it -/
theorem kept_self {s : Sv} (h : isSv s) {x : Str} (hx : x ∈ s.heads) : kept s.keep s.heads x = x := by
  obtain ⟨hK, -, -, he⟩ := h
  have h1 : (sieve s.keep s.heads).heads = heads s.keep s.heads := heads_of hK s.keep
  rw [← he] at h1
  obtain ⟨i, hi, rfl⟩ := List.mem_iff_getElem.mp hx
  have h2 : (heads s.keep s.heads)[i]? = some s.heads[i] := by rw [← h1]; exact List.getElem?_eq_getElem hi
  unfold heads at h2
  rw [List.getElem?_map, List.getElem?_eq_getElem hi] at h2
  simpa using h2
end Go.Proofs.Ytakadkhgcjndmaa.T
namespace Go.Proofs.Ytakadkhgcjndmaa.W
open Go.RowKit K

theorem lt_ba (a b : ByteArray) : lt a b = decide (a.toList < b.toList) := by
  rw [Bool.eq_iff_iff, lt_iff, decide_eq_true_eq]
theorem beg_pre (k h : ByteArray) : begB k h = h.toList.isPrefixOf k.toList := by
  rw [Bool.eq_iff_iff, List.isPrefixOf_iff_prefix]
  unfold begB
  simp only [Bool.and_eq_true, decide_eq_true_eq, beq_iff_eq, ext_l, List.drop_zero, Nat.sub_zero]
  rw [List.prefix_iff_eq_take, len_L]
  constructor
  · rintro ⟨-, h2⟩; exact h2.symm
  · intro h2
    refine ⟨?_, h2.symm⟩
    have := congrArg List.length h2
    rw [List.length_take, len_L, len_L] at this
    omega
theorem near_is {L M F : ByteArray} {l : List ByteArray} {kp : Nat} (h : T.isSv (svOf L M F l kp)) (f : ByteArray) {x : T.Str} (hx : x ∈ (svOf L M F l kp).heads) :
    nearP f (ba x, T.whole kp (svOf L M F l kp).heads x) = T.near kp (svOf L M F l kp).heads f.toList x := by
  have hk : T.kept kp (svOf L M F l kp).heads x = x := T.kept_self h hx
  unfold nearP T.near
  rw [hk, lt_ba, ba_l, beg_pre, ba_l]
  congr 1
  rw [Bool.eq_iff_iff]
  simp
theorem find_idx {α : Type} (p : α → Bool) : ∀ (l : List α), l[l.findIdx p]? = l.find? p
  | [] => rfl
  | a :: t => by
    rw [List.findIdx_cons, List.find?_cons]
    cases h : p a with
    | true => rfl
    | false =>
      show (a :: t)[t.findIdx p + 1]? = t.find? p
      rw [List.getElem?_cons_succ]
      exact find_idx p t
theorem findIdx_congr {α : Type} {p q : α → Bool} : ∀ {l : List α}, (∀ x ∈ l, p x = q x) → l.findIdx p = l.findIdx q
  | [], _ => rfl
  | a :: t, h => by
    rw [List.findIdx_cons, List.findIdx_cons, h a (by simp), findIdx_congr fun x hx => h x (by simp [hx])]
theorem findIdx_map' {α β : Type} (g : α → β) (p : β → Bool) : ∀ l : List α, (l.map g).findIdx p = l.findIdx (fun x => p (g x))
  | [] => rfl
  | a :: t => by rw [List.map_cons, List.findIdx_cons, List.findIdx_cons, findIdx_map' g p t]
theorem zip_map' {α β γ : Type} (g : α → β) (h : α → γ) : ∀ l : List α, (l.map g).zip (l.map h) = l.map fun x => (g x, h x)
  | [] => rfl
  | a :: t => by rw [List.map_cons, List.map_cons, List.zip_cons_cons, zip_map' g h t]; rfl
/-- SieveSeek, in mathematics -/
theorem seekO_is {L M F : ByteArray} {l : List ByteArray} {kp : Nat} {f : ByteArray} (hsv : svB L M F l kp = true) (hf : keyB f = true) : seekO L M F l kp f = (T.seekK kp (svOf L M F l kp).heads f.toList).map ba := by
  have h := svB_is hsv
  unfold seekO
  rw [if_pos ⟨hsv, hf⟩, Int.toNat_natCast]
  unfold behI hsOf wsOf
  rw [zip_map', findIdx_map']
  have e : (svOf L M F l kp).heads.findIdx (fun x => nearP f (ba x, T.whole kp (svOf L M F l kp).heads x)) = (svOf L M F l kp).heads.findIdx (T.near kp (svOf L M F l kp).heads f.toList) :=
    findIdx_congr fun x hx => near_is h f hx
  rw [e, List.getElem?_map, find_idx]
  unfold T.seekK
  cases hfd : (svOf L M F l kp).heads.find? (T.near kp (svOf L M F l kp).heads f.toList) with
  | none => rfl
  | some x =>
    have hx := List.mem_of_find?_eq_some hfd
    rw [Option.map_some, Option.map_some, Option.map_some, show T.kept kp (svOf L M F l kp).heads x = x from T.kept_self h hx]
/-- SieveMeets, in mathematics -/
theorem meetO_is {L M F : ByteArray} {l : List ByteArray} {kp : Nat} {f t : ByteArray} (hsv : svB L M F l kp = true) (hf : keyB f = true) (ht : keyB t = true) : meetO L M F l kp f t = T.meetsK kp (svOf L M F l kp).heads f.toList t.toList := by
  unfold meetO T.meetsK atMost
  rw [ht, seekO_is hsv hf, Bool.true_and, lt_ba]
  congr 1
  · rw [Bool.eq_iff_iff]; simp
  · cases T.seekK kp (svOf L M F l kp).heads f.toList with
    | none => rfl
    | some x =>
      simp only [Option.map_some, Option.any_some]
      rw [lt_ba, ba_l, Bool.eq_iff_iff]
      simp

end Go.Proofs.Ytakadkhgcjndmaa.W

namespace Go.Proofs.Ytakadkhgcjndmaa.W
open Go.RowKit K

/-- two filters are the same, field by field -/
def sameSv (L M F L2 M2 F2 : ByteArray) (l l2 : List ByteArray) (keep keep2 : Int) : Bool := eqs L L2 && (eqs M M2 && (eqs F F2 && ((keep == keep2) && sameL l l2)))

set_option maxHeartbeats 2000000 in
theorem ltSieveS (L M F L2 M2 F2 : ByteArray) (A A2 : Option Addr) (n c n2 c2 : Nat) (l l2 : List ByteArray) (keep keep2 : Int) (w : World) (hr : Strs w w.heap.size A n l) (hr2 : Strs w w.heap.size A2 n2 l2) (hn : n ≤ maxLen) (hn2 : n2 ≤ maxLen) :
    Calls Try.prog 31 #[.agg #[.string L, .string M, .string F, .slice A n c, .int .i64 keep], .agg #[.string L2, .string M2, .string F2, .slice A2 n2 c2, .int .i64 keep2]] w fun e w' => e = .returned (.bool (sameSv L M F L2 M2 F2 l l2 keep keep2)) ∧ Below w.heap.size w w' := by
  have hbw : Below w.heap.size w ((w.alloc (Obj.cells #[.string L, .string M, .string F, .slice A n c, .int .i64 keep] 27)).alloc (Obj.cells #[.string L2, .string M2, .string F2, .slice A2 n2 c2, .int .i64 keep2] 27)) := ((Below.refl _ _).alloc (Nat.le_refl _) _).alloc (by simp) _
  have HSA := Lib.hid (samesL _ w.heap.size n c n2 c2 A A2 l l2 (hr.below hbw (Nat.le_refl _)) (hr2.below hbw (Nat.le_refl _)) hn hn2)
  have HBW := Lib.hid hbw
  clear hr hr2 hbw
  rcases Bool.eq_false_or_eq_true (L.toList == L2.toList) with g1 | g1
  · rcases Bool.eq_false_or_eq_true (M.toList == M2.toList) with g2 | g2
    · rcases Bool.eq_false_or_eq_true (F.toList == F2.toList) with g3 | g3
      · rcases Bool.eq_false_or_eq_true (keep == keep2) with g4 | g4
        · have G := Lib.hid (show sameSv L M F L2 M2 F2 l l2 keep keep2 = sameL l l2 by unfold sameSv; have e1 : eqs L L2 = true := g1; have e2 : eqs M M2 = true := g2; have e3 : eqs F F2 = true := g3; rw [e1, e2, e3, g4]; rfl)
          go_enter Try.func31, Try.ntmps31
          go_wp2_with (go_at_call 37; refine HSA.out.mono ?_; rintro e w5 ⟨rfl, hs5⟩; have H5 := Lib.hid hs5; clear hs5)
          go_ret
          exact ⟨ret_bool G.out.symm, HBW.out.trans (H5.out.below _)⟩
        · have G := Lib.hid (show sameSv L M F L2 M2 F2 l l2 keep keep2 = false by unfold sameSv; have e1 : eqs L L2 = true := g1; have e2 : eqs M M2 = true := g2; have e3 : eqs F F2 = true := g3; rw [e1, e2, e3, g4]; rfl)
          go_enter Try.func31, Try.ntmps31
          go_wp2
          go_ret
          exact ⟨ret_bool G.out.symm, HBW.out⟩
      · have G := Lib.hid (show sameSv L M F L2 M2 F2 l l2 keep keep2 = false by unfold sameSv; have e1 : eqs L L2 = true := g1; have e2 : eqs M M2 = true := g2; have e3 : eqs F F2 = false := g3; rw [e1, e2, e3]; rfl)
        go_enter Try.func31, Try.ntmps31
        go_wp2
        go_ret
        exact ⟨ret_bool G.out.symm, HBW.out⟩
    · have G := Lib.hid (show sameSv L M F L2 M2 F2 l l2 keep keep2 = false by unfold sameSv; have e1 : eqs L L2 = true := g1; have e2 : eqs M M2 = false := g2; rw [e1, e2]; rfl)
      go_enter Try.func31, Try.ntmps31
      go_wp2
      go_ret
      exact ⟨ret_bool G.out.symm, HBW.out⟩
  · have G := Lib.hid (show sameSv L M F L2 M2 F2 l l2 keep keep2 = false by unfold sameSv; have e1 : eqs L L2 = false := g1; rw [e1]; rfl)
    go_enter Try.func31, Try.ntmps31
    go_wp2
    go_ret
    exact ⟨ret_bool G.out.symm, HBW.out⟩

end Go.Proofs.Ytakadkhgcjndmaa.W

namespace Go.Proofs.Ytakadkhgcjndmaa.W
open Go.RowKit K

theorem sameSv_iff {L M F L2 M2 F2 : ByteArray} {l l2 : List ByteArray} {keep keep2 : Int} : sameSv L M F L2 M2 F2 l l2 keep keep2 = true ↔ L = L2 ∧ M = M2 ∧ F = F2 ∧ keep = keep2 ∧ l = l2 := by
  unfold sameSv
  simp only [Bool.and_eq_true, eqs_iff, beq_iff_eq, sameL_iff]

set_option maxHeartbeats 2000000 in
theorem eqSieveS (L M F L2 M2 F2 : ByteArray) (A A2 : Option Addr) (n c n2 c2 : Nat) (l l2 : List ByteArray) (keep keep2 : Int) (w : World) (hr : Strs w w.heap.size A n l) (hr2 : Strs w w.heap.size A2 n2 l2) (hn : n ≤ maxLen) (hn2 : n2 ≤ maxLen) :
    Calls Try.prog 60 #[.agg #[.string L, .string M, .string F, .slice A n c, .int .i64 keep], .agg #[.string L2, .string M2, .string F2, .slice A2 n2 c2, .int .i64 keep2]] w fun e w' => e = .returned (.bool (sameSv L M F L2 M2 F2 l l2 keep keep2)) ∧ Below w.heap.size w w' := by
  have hbw : Below w.heap.size w ((w.alloc (Obj.cells #[.string L, .string M, .string F, .slice A n c, .int .i64 keep] 27)).alloc (Obj.cells #[.string L2, .string M2, .string F2, .slice A2 n2 c2, .int .i64 keep2] 27)) := ((Below.refl _ _).alloc (Nat.le_refl _) _).alloc (by simp) _
  have HSA := Lib.hid (eqL _ w.heap.size n c n2 c2 A A2 l l2 (hr.below hbw (Nat.le_refl _)) (hr2.below hbw (Nat.le_refl _)) hn hn2)
  have HBW := Lib.hid hbw
  clear hr hr2 hbw
  rcases Bool.eq_false_or_eq_true (L.toList == L2.toList) with g1 | g1
  · rcases Bool.eq_false_or_eq_true (M.toList == M2.toList) with g2 | g2
    · rcases Bool.eq_false_or_eq_true (F.toList == F2.toList) with g3 | g3
      · have G0 := Lib.hid (show sameSv L M F L2 M2 F2 l l2 keep keep2 = ((keep == keep2) && sameL l l2) by unfold sameSv; have e1 : eqs L L2 = true := g1; have e2 : eqs M M2 = true := g2; have e3 : eqs F F2 = true := g3; rw [e1, e2, e3]; rfl)
        rcases Bool.eq_false_or_eq_true (sameL l l2) with g5 | g5
        · rw [g5] at HSA G0
          clear g5
          go_enter Try.func60, Try.ntmps60
          go_wp2_with fail
          go_at_call 61
          refine HSA.out.mono ?_
          rintro e w5 ⟨rfl, m5, rfl⟩
          by_cases g4 : keep = keep2
          · have g4b : (keep == keep2) = true := by simp [g4]
            rw [g4b] at G0
            have g4n : (keep != keep2) = false := by simp [g4]
            clear g4b g4
            go_wp2
            go_ret
            exact ⟨ret_bool (by rw [G0.out]; rfl), below_drewN HBW.out m5⟩
          · have g4b : (keep == keep2) = false := by simp [g4]
            rw [g4b] at G0
            have g4n : (keep != keep2) = true := by simp [g4]
            clear g4b
            go_wp2
            go_ret
            exact ⟨ret_bool (by rw [G0.out]; rfl), below_drewN HBW.out m5⟩
        · rw [g5] at HSA G0
          clear g5
          go_enter Try.func60, Try.ntmps60
          go_wp2_with fail
          go_at_call 61
          refine HSA.out.mono ?_
          rintro e w5 ⟨rfl, m5, rfl⟩
          go_wp2
          go_ret
          exact ⟨ret_bool (by rw [G0.out, Bool.and_false]), below_drewN HBW.out m5⟩
      · have G := Lib.hid (show sameSv L M F L2 M2 F2 l l2 keep keep2 = false by unfold sameSv; have e1 : eqs L L2 = true := g1; have e2 : eqs M M2 = true := g2; have e3 : eqs F F2 = false := g3; rw [e1, e2, e3]; rfl)
        go_enter Try.func60, Try.ntmps60
        go_wp2
        go_ret
        exact ⟨ret_bool G.out.symm, HBW.out⟩
    · have G := Lib.hid (show sameSv L M F L2 M2 F2 l l2 keep keep2 = false by unfold sameSv; have e1 : eqs L L2 = true := g1; have e2 : eqs M M2 = false := g2; rw [e1, e2]; rfl)
      go_enter Try.func60, Try.ntmps60
      go_wp2
      go_ret
      exact ⟨ret_bool G.out.symm, HBW.out⟩
  · have G := Lib.hid (show sameSv L M F L2 M2 F2 l l2 keep keep2 = false by unfold sameSv; have e1 : eqs L L2 = false := g1; rw [e1]; rfl)
    go_enter Try.func60, Try.ntmps60
    go_wp2
    go_ret
    exact ⟨ret_bool G.out.symm, HBW.out⟩

end Go.Proofs.Ytakadkhgcjndmaa.W

