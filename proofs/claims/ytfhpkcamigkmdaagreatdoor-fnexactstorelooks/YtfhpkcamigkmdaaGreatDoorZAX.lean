/-
  Contract of the model's SieveHas at filters that are ones: the walk.
  The model's StoreLooks and StoreSpans.
  The program's partsMatch, and the memory of readTrie: a trie that is filled node by node.
  Contract of the program's partsMatch: it answers as the model's form does.
  The steps of the program's readTrie: branch by branch; no walk.
  What the model's SieveSeek and SieveMeets answer, in mathematics: no walk.
  Contract of the program's sievesEqual, and when a filter is one, by what is read of it.
  What is kept of a filter that can be read: how long, how many, and what the program's validity says; no walk.
-/
import Derived.Test.YtfhpkcamigkmdaaGreatDoorZAW
import Derived.Test.YtfhpkcamigkmdaaGreatDoorQJ
import Derived.Test.YtfhpkcamigkmdaaGreatDoorJB
import Derived.Test.YtfhpkcamigkmdaaGreatDoorJ4
import Derived.Test.YtfhpkcamigkmdaaGreatDoorZAO
import Derived.Test.YtfhpkcamigkmdaaGreatDoorZAL
import Derived.Test.YtfhpkcamigkmdaaGreatDoorZAA
namespace Go.Proofs.YtfhpkcamigkmdaaGreatDoor.W
open Go.RowKit K

/-- what lies at the end of the way -/
theorem end_parts {L M F : ByteArray} {l : List ByteArray} {kp : Nat} {keys : List T.Str} {k : ByteArray} (hK : T.KeyL keys) (hne : keys ≠ []) (hk : T.isKey k.toList) (hsv : svOf L M F l kp = T.enc kp (T.forks keys)) {j p : Nat} {f : T.Fork} {b : T.Br} (hw : OnWay (T.forks keys) kp k.toList keys j f) (hb : (T.bs f)[p]? = some b) (hg : T.goes b = false) (hl : b.1 = T.letter k.toList f.deep) :
    ∃ (q : Nat) (hq : q < l.length) (hkL : T.start (T.forks keys) j + p < L.size) (_hkM : T.start (T.forks keys) j + p < M.size), (q : Int) = (T.start (T.forks keys) j + p : Nat) - cntI M (T.start (T.forks keys) j + p) ∧
      (T.sepL keys).any (T.mayBe kp k.toList) = (if (decide (L[T.start (T.forks keys) j + p].toNat = 45) || decide ((l[q].size : Int) < kp)) = true then (k.extract (min (f.deep + 1) k.size) k.size).toList == l[q].toList else begB (k.extract (min (f.deep + 1) k.size) k.size) l[q]) := by
  obtain ⟨Tr, h0⟩ := T.tree_of hK hne
  have e2 : T.nodes (T.loads [⟨keys, 0⟩]) [⟨keys, 0⟩] = T.forks keys := rfl
  rw [e2] at Tr h0
  obtain ⟨h1, h2, e1, -⟩ := at_branch hsv hw.at_ hb
  obtain ⟨x, hx, -, -, hrest⟩ := T.leaf_at Tr kp hw.at_ hb hg
  have er : l.map (·.toList) = T.rests kp (T.forks keys) := congrArg T.Sv.rests hsv
  have em : M.toList = T.more (T.forks keys) := congrArg T.Sv.more hsv
  rw [← er, ← em] at hrest
  generalize T.start (T.forks keys) j + p = k0 at h1 h2 e1 hrest
  have hbd := cntI_bd M k0
  have hce : cntI M k0 = (M_ones M k0 : Nat) := by unfold cntI M_ones; rw [ones_M]
  have hrest' : (l.map (·.toList))[k0 - M_ones M k0]? = some (T.restOf x (f.deep + 1) kp) := hrest
  rw [List.getElem?_map] at hrest'
  have hql : k0 - M_ones M k0 < l.length := by
    rcases Nat.lt_or_ge (k0 - M_ones M k0) l.length with h | h
    · exact h
    · rw [List.getElem?_eq_none h] at hrest'; simp at hrest'
  rw [List.getElem?_eq_getElem hql] at hrest'
  have hlq : l[k0 - M_ones M k0].toList = T.restOf x (f.deep + 1) kp := by simpa using hrest'
  refine ⟨k0 - M_ones M k0, hql, h1, h2, by omega, ?_⟩
  have hwf := Tr.wf f (List.mem_of_getElem? hw.at_)
  have hn6 : 6 - f.deep = (5 - f.deep) + 1 := by have := hwf.2; omega
  rw [hw.has, hn6, T.found hwf.1 (5 - f.deep) k.toList kp (List.mem_of_getElem? hb) hl, if_neg (by rw [hg]; simp), hx]
  have hone : (List.map (fun y => (y, f.deep + 1)) [x]).any (T.mayBe kp k.toList) = T.mayBe kp k.toList (x, f.deep + 1) := by simp
  rw [hone, ← T.end_is hwf.1 hk hw.alike (List.mem_of_getElem? hb) hl hx kp, ← hlq]
  generalize l[k0 - M_ones M k0] = r
  have hdrop : (k.extract (min (f.deep + 1) k.size) k.size).toList = k.toList.drop (min (f.deep + 1) k.toList.length) := by
    rw [ext_l, len_L, List.take_of_length_le (by rw [List.length_drop, len_L]; omega)]
  have hcond : (decide (L[k0].toNat = 45) || decide ((r.size : Int) < kp)) = true ↔ (b.1 = 45 ∨ r.toList.length < kp) := by
    rw [len_L]
    simp only [Bool.or_eq_true, decide_eq_true_eq]
    constructor
    · rintro (h | h)
      · left; rw [← e1]; exact UInt8.toNat_inj.mp (by show L[k0].toNat = 45; exact h)
      · right; omega
    · rintro (h | h)
      · left; rw [e1, h]; rfl
      · right; omega
  unfold T.endHas
  by_cases hc : b.1 = 45 ∨ r.toList.length < kp
  · rw [if_pos hc, if_pos (hcond.mpr hc), hdrop]
  · rw [if_neg hc, if_neg (fun h => hc (hcond.mp h))]
    unfold begB
    have hs : (k.extract (min (f.deep + 1) k.size) k.size).size = (k.toList.drop (min (f.deep + 1) k.toList.length)).length := by rw [← hdrop, len_L]
    rw [ext_l, hdrop, hs, len_L, List.drop_zero, Nat.sub_zero]

set_option maxRecDepth 8000 in
set_option maxHeartbeats 4000000 in
theorem hasYes (L M F : ByteArray) (A : Option Addr) (n c : Nat) (l : List ByteArray) (kp : Nat) (k : ByteArray) (w : World) (hL : L.size ≤ maxLen) (hM : M.size ≤ maxLen) (hF : F.size ≤ maxLen) (hkf : k.size ≤ maxLen) (hr : Strs w w.heap.size A n l) (hnc : n ≤ c) (hc : c ≤ maxLen) (hfit : ∀ i (h : i < l.length), l[i].size ≤ 1000000000000) (hsv : svB L M F l kp = true) (hky : keyB k = true) (hz : L.size ≠ 0) :
    Calls Tryz.prog 87 #[.agg #[.string L, .string M, .string F, .slice A n c, .int .i64 kp], .string k] w fun e w' => e = .returned (.bool (T.hasK kp (svOf L M F l kp).heads k.toList)) ∧ Below w.heap.size w w' := by
  have hlen := hr.len
  subst hlen
  have his := svB_is hsv
  obtain ⟨hK, h24, -, heq⟩ := his
  have heq' : svOf L M F l kp = T.enc kp (T.forks (svOf L M F l kp).heads) := heq
  have hne : (svOf L M F l kp).heads ≠ [] := fun e => hz (by
    have h1 := congrArg (fun s => s.letters.length) (show svOf L M F l kp = T.sieve kp (svOf L M F l kp).heads from heq)
    simp only [e, T.sieve_nil] at h1
    rw [← len_L]; exact h1)
  have hfo : formB L M F l.length kp = true := by
    have h := hsv
    unfold svB at h; rw [Bool.and_eq_true] at h; exact h.1
  obtain ⟨p1, p2, p3, p4, p5, p6⟩ := form_parts hfo
  have HR := Lib.hid hr
  have HFI := Lib.hid hfit
  have HOK := Lib.hid (show ∀ W : World, Below w.heap.size w W → Calls Tryz.prog 120 #[.agg #[.string L, .string M, .string F, .slice A l.length c, .int .i64 kp]] W fun e w' => e = .returned (.bool true) ∧ Below W.heap.size W w' from fun W hW => by
    have hh := okSv L M F A l.length c l kp W hL hM hF ((hr.below hW (Nat.le_refl _)).more hW.size) hnc hc hfit
    rw [hsv] at hh; exact hh)
  have HKF := Lib.hid (show ∀ W : World, Calls Tryz.prog 66 #[.string k] W fun e w' => e = .returned (.bool true) ∧ W = w' from fun W => by have hh := keyS k W hkf; rw [hky] at hh; exact hh)
  have hk5 : k.size ≤ 5 := by have h := hky; unfold keyB at h; simp only [Bool.and_eq_true, decide_eq_true_eq] at h; exact h.1
  have HWK := Lib.hid (fun W => walkS L M F A l.length c l kp (svOf L M F l kp).heads k W hK hne (isKey_of hky) heq' p1 p2 p3)
  have HHK := Lib.hid (T.hasK_eq hK kp k.toList)
  have HEP := Lib.hid (fun (j p : Nat) (f : T.Fork) (b : T.Br) => end_parts (L := L) (M := M) (F := F) (l := l) (k := k) (j := j) (p := p) (f := f) (b := b) hK hne (isKey_of hky) heq')
  have hzi : ¬ (L.size : Int) = 0 := by omega
  generalize (svOf L M F l kp).heads = keys at HWK HHK HEP ⊢
  clear hr hfit hsv hky hK h24 heq heq' hne hfo
  go_enter Tryz.func87, Tryz.ntmps87
  go_wp2_with fail
  go_at_call 120
  refine Calls.mono (HOK.out _ (by exact (Below.refl _ _).alloc (Nat.le_refl _) _)) ?_
  rintro e w1 ⟨rfl, hb1⟩
  have hbx : w1.heap[w.heap.size]? = some (Obj.cells #[.string L, .string M, .string F, .slice A l.length c, .int .i64 kp] 92) := by rw [hb1.block _ (by simp)]; exact heap_alloc_new _ _
  have hbw : Below w.heap.size w w1 := ((Below.refl _ _).alloc (Nat.le_refl _) _).trans (hb1.mono (by simp))
  have hs1 : w.heap.size < w1.heap.size := (Array.getElem?_eq_some_iff.1 hbx).1
  have a0 : w1.cell? ⟨w.heap.size, 0, none⟩ = some (.string L) := by rw [cell_of_row _ _ _ _ _ _ hbx]; rfl
  have a1 : w1.cell? ⟨w.heap.size, 1, none⟩ = some (.string M) := by rw [cell_of_row _ _ _ _ _ _ hbx]; rfl
  have a2 : w1.cell? ⟨w.heap.size, 2, none⟩ = some (.string F) := by rw [cell_of_row _ _ _ _ _ _ hbx]; rfl
  have a3 : w1.cell? ⟨w.heap.size, 3, none⟩ = some (.slice A l.length c) := by rw [cell_of_row _ _ _ _ _ _ hbx]; rfl
  have a4 : w1.cell? ⟨w.heap.size, 4, none⟩ = some (.int .i64 kp) := by rw [cell_of_row _ _ _ _ _ _ hbx]; rfl
  have HBX := Lib.hid hbx
  have HBW := Lib.hid hbw
  clear hbx hbw hb1
  go_wp2_with (first
    | (go_at_call 66; refine (HKF.out _).mono ?_; rintro e w' ⟨rfl, rfl⟩)
    | (go_at_call 128; fail))
  go_at_call 128
  refine (HWK.out _).mono ?_
  rintro e w2 ⟨hb2, ⟨rfl, hno⟩ | ⟨j, p, f, b, rfl, how, hbr, hgo, hlt⟩⟩
  · have HNO := Lib.hid hno
    have HBW2 := Lib.hid (HBW.out.trans (hb2.mono (by omega)))
    clear hno hb2
    go_wp2
    go_ret
    exact ⟨ret_bool (by rw [← HHK.out, HNO.out]), HBW2.out⟩
  · obtain ⟨q, hq, hkL, hkM, hqe, hres⟩ := HEP.out j p f b how hbr hgo hlt
    clear how hbr hgo hlt
    have hdd : min (f.deep + 1) k.size ≤ k.size := Nat.min_le_right _ _
    generalize min (f.deep + 1) k.size = dd at hdd hres ⊢
    generalize T.start (T.forks keys) j + p = k0 at hkL hkM hqe hres ⊢
    have hbx2 : w2.heap[w.heap.size]? = some (Obj.cells #[.string L, .string M, .string F, .slice A l.length c, .int .i64 kp] 92) := by rw [hb2.block _ hs1]; exact HBX.out
    have hs2 : w1.heap.size ≤ w2.heap.size := hb2.size
    have HBW2 := Lib.hid (HBW.out.trans (hb2.mono (by omega)))
    clear a0 a1 a2 a3 a4
    have a0 : w2.cell? ⟨w.heap.size, 0, none⟩ = some (.string L) := by rw [cell_of_row _ _ _ _ _ _ hbx2]; rfl
    have a1 : w2.cell? ⟨w.heap.size, 1, none⟩ = some (.string M) := by rw [cell_of_row _ _ _ _ _ _ hbx2]; rfl
    have a2 : w2.cell? ⟨w.heap.size, 2, none⟩ = some (.string F) := by rw [cell_of_row _ _ _ _ _ _ hbx2]; rfl
    have a3 : w2.cell? ⟨w.heap.size, 3, none⟩ = some (.slice A l.length c) := by rw [cell_of_row _ _ _ _ _ _ hbx2]; rfl
    have a4 : w2.cell? ⟨w.heap.size, 4, none⟩ = some (.int .i64 kp) := by rw [cell_of_row _ _ _ _ _ _ hbx2]; rfl
    obtain ⟨b0, off, hA, hbb, hcell⟩ := (HR.out.below HBW2.out (Nat.le_refl _)).cell q hq
    subst hA
    obtain ⟨r, hrr⟩ : ∃ r : Int, r = cntI M k0 := ⟨_, rfl⟩
    have hbd := cntI_bd M k0
    rw [← hrr] at hbd
    have HON1 := Lib.hid (show ∀ W : World, Calls Tryz.prog 129 #[.string M, .int .i64 k0] W fun e w' => e = .returned (.int .i64 r) ∧ W = w' from fun W => by
      have hh := onesS M k0 W (by unfold maxLen; omega) (by omega) (by omega)
      rw [Int.toNat_natCast, ← hrr] at hh; exact hh)
    have HRS := Lib.hid (HR.out.below HBW2.out (Nat.le_refl _))
    have HWH := Lib.hid (show ∀ m, Calls Tryz.prog 130 #[.agg #[.string L, .string M, .string F, .slice (some ⟨b0, off, none⟩) l.length c, .int .i64 kp], .int .i64 k0] (w2.drewN m) fun e w' => e = .returned (.bool (decide (L[k0].toNat = 45) || decide ((l[q].size : Int) < kp))) ∧ Below w2.heap.size (w2.drewN m) w' from fun m =>
      wholeS L M F _ l.length c kp k0 q w.heap.size l (w2.drewN m) (by omega) (by omega) hkL (HRS.out.drewN m) (by show w.heap.size ≤ w2.heap.size; omega) (by omega) hqe hq)
    rw [← hrr] at hqe
    have hsub : IntKind.i64.wrap ((k0 : Int) - r) = (q : Int) := by rw [IntWalk.i64_in _ ⟨by omega, by omega⟩]; omega
    have hx0 : (0 : Int) ≤ (q : Int) := by omega
    have hx1 : (q : Int) < (l.length : Int) := by omega
    have HRES := Lib.hid hres
    have HQE := Lib.hid hqe
    have hls : l[q].size ≤ 1000000000006 := by have := HFI.out q hq; omega
    obtain ⟨rs, hrs⟩ : ∃ rs, rs = l[q] := ⟨_, rfl⟩
    obtain ⟨wb, hwb⟩ : ∃ wb, wb = (decide (L[k0].toNat = 45) || decide ((l[q].size : Int) < kp)) := ⟨_, rfl⟩
    rw [← hwb] at HWH HRES
    rw [← hrs] at hcell HRES
    clear hbx2 hb2 hres hqe hrr hwb hrs
    have hddi : (dd : Int) ≤ (k.size : Int) := by omega
    go_wp2_with fail
    go_quiet ((go_at_call 129; exact quiet_mine (HON1.out _)))
    go_wp2_with fail
    go_at_call 130
    refine (HWH.out _).mono ?_
    rintro e w3 ⟨rfl, hb3⟩
    have HBW3 := Lib.hid (show Below w.heap.size w w3 from HBW2.out.trans ((Same.below ⟨_, rfl⟩ w.heap.size).trans (hb3.mono (by omega))))
    clear hb3 a0 a1 a2 a3 a4
    cases wb with
    | true =>
      go_wp2
      go_ret
      exact ⟨ret_bool (by rw [← HHK.out, HRES.out]; simp), HBW3.out⟩
    | false =>
      have HBG := Lib.hid (show ∀ W : World, Calls Tryz.prog 131 #[.string (k.extract dd k.size), .string rs] W fun e w' => e = .returned (.bool (begB (k.extract dd k.size) rs)) ∧ W = w' from fun W => begS _ _ W)
      go_wp2_with (go_at_call 131; refine (HBG.out _).mono ?_; rintro e w' ⟨rfl, rfl⟩)
      go_ret
      exact ⟨ret_bool (by rw [← HHK.out, HRES.out, if_neg (by simp)]), HBW3.out⟩

/-- the model's SieveHas -/
theorem hasSv (L M F : ByteArray) (A : Option Addr) (n c : Nat) (l : List ByteArray) (keep : Int) (k : ByteArray) (w : World) (hL : L.size ≤ maxLen) (hM : M.size ≤ maxLen) (hF : F.size ≤ maxLen) (hkf : k.size ≤ maxLen) (hr : Strs w w.heap.size A n l) (hnc : n ≤ c) (hc : c ≤ maxLen) (hfit : ∀ i (h : i < l.length), l[i].size ≤ 1000000000000) :
    Calls Tryz.prog 87 #[.agg #[.string L, .string M, .string F, .slice A n c, .int .i64 keep], .string k] w fun e w' => e = .returned (.bool (hasO L M F l keep k)) ∧ Below w.heap.size w w' := by
  rcases Bool.eq_false_or_eq_true (svB L M F l keep) with g1 | g1
  · rcases Bool.eq_false_or_eq_true (keyB k) with g2 | g2
    · have hfo : formB L M F l.length keep = true := by
        have h := g1
        unfold svB at h; rw [Bool.and_eq_true] at h; exact h.1
      obtain ⟨-, -, -, -, p5, -⟩ := form_parts hfo
      obtain ⟨kp, rfl⟩ := Int.eq_ofNat_of_zero_le p5
      have e : hasO L M F l kp k = T.hasK kp (svOf L M F l kp).heads k.toList := by unfold hasO; rw [g1, g2, Int.toNat_natCast]; rfl
      rw [e]
      by_cases hz : L.size = 0
      · have hh : (svOf L M F l kp).heads = [] := by
          have h1 := hs_len (L := L) (M := M) (F := F) (l := l) (kp := kp) (form_parts hfo).1
          unfold hsOf at h1
          rw [List.length_map] at h1
          exact List.eq_nil_of_length_eq_zero (by omega)
        have e2 : T.hasK kp (svOf L M F l kp).heads k.toList = false := by rw [hh]; rfl
        rw [e2]
        exact hasNo L M F A n c l kp k w hL hM hF hkf hr hnc hc hfit (.inr (.inr hz))
      · exact hasYes L M F A n c l kp k w hL hM hF hkf hr hnc hc hfit g1 g2 hz
    · have e : hasO L M F l keep k = false := by unfold hasO; rw [g2]; simp
      rw [e]
      exact hasNo L M F A n c l keep k w hL hM hF hkf hr hnc hc hfit (.inr (.inl g2))
  · have e : hasO L M F l keep k = false := by unfold hasO; rw [g1]; rfl
    rw [e]
    exact hasNo L M F A n c l keep k w hL hM hF hkf hr hnc hc hfit (.inl g1)

end Go.Proofs.YtfhpkcamigkmdaaGreatDoor.W
namespace Go.Proofs.YtfhpkcamigkmdaaGreatDoor.W
open Go.RowKit K R

/-- how many of the first j pass -/
def cntK (p : Sf → Bool) (l : List Sf) (j : Nat) : Nat := ((l.take j).filter p).length
theorem cntK_zero {p : Sf → Bool} {l : List Sf} : cntK p l 0 = 0 := rfl
theorem cntK_yes {p : Sf → Bool} {l : List Sf} {j : Nat} (h : j < l.length) (hp : p l[j] = true) : cntK p l (j + 1) = cntK p l j + 1 := by
  unfold cntK; rw [← List.take_concat_get h, List.concat_eq_append, List.filter_append, List.length_append]; simp [hp]
theorem cntK_no {p : Sf → Bool} {l : List Sf} {j : Nat} (h : j < l.length) (hp : p l[j] = false) : cntK p l (j + 1) = cntK p l j := by
  unfold cntK; rw [← List.take_concat_get h, List.concat_eq_append, List.filter_append, List.length_append]; simp [hp]
theorem cntK_all {p : Sf → Bool} {l : List Sf} : cntK p l l.length = (l.filter p).length := by unfold cntK; rw [List.take_length]
def hasS (k : ByteArray) (x : Sf) : Bool := hasO x.letters x.more x.first x.rests x.keep k
/-- what is answered of how many filters pass -/
def lookZ (s : Sto) (p : Sf → Bool) (q b : Bool) : Int := if b = true ∧ q = true then ((s.sieves.filter p).length : Nat) else -1
def LookA (s : Sto) (p : Sf → Bool) (q : Bool) (w : World) (e : Ending) (w' : World) : Prop := ∃ b, e = .returned (.int .i64 (lookZ s p q b)) ∧ (b = true ↔ StP s) ∧ Below w.heap.size w w'
theorem smallS_fit {x : Sf} (h : smallS x) : x.letters.size ≤ maxLen ∧ x.more.size ≤ maxLen ∧ x.first.size ≤ maxLen ∧ ∀ i (h : i < x.rests.length), x.rests[i].size ≤ 1000000000000 := by
  obtain ⟨⟨h1, h2, h3⟩, h4, h5⟩ := h
  exact ⟨by unfold maxLen; omega, by unfold maxLen; omega, by unfold maxLen; omega, fun i hi => by have := h5 _ (List.getElem_mem hi); omega⟩

set_option maxHeartbeats 4000000 in
theorem looksS (w : World) (A0 A1 A2 A5 : Option Addr) (c0 c1 c2 c5 : Nat) (s : Sto) (hr : StM w w.heap.size A0 A1 A2 A5 c0 c1 c2 c5 s) (hsm : smallSt s) (k : ByteArray) (hk : k.size ≤ maxLen) :
    Calls Tryz.prog 31 #[stV A0 A1 A2 A5 c0 c1 c2 c5 s, .string k] w (LookA s (hasS k) (keyB k) w) := by
  obtain ⟨top, levels, sieves, keep, time, times⟩ := s
  have HSM := Lib.hid hsm
  have HOK := Lib.hid (fun W (hW : StM W W.heap.size A0 A1 A2 A5 c0 c1 c2 c5 ⟨top, levels, sieves, keep, time, times⟩) => okSt W A0 A1 A2 A5 c0 c1 c2 c5 _ hW hsm)
  simp only [stV] at *
  obtain ⟨W0, hW0⟩ : ∃ W0, W0 = w.alloc (.cells #[.slice A0 top.length c0, .slice A1 levels.length c1, .slice A2 sieves.length c2, .int .i64 keep, .int .i64 time, .slice A5 times.length c5] 33) := ⟨_, rfl⟩
  have hbw : Below w.heap.size w W0 := by rw [hW0]; exact (Below.refl _ _).alloc (Nat.le_refl _) _
  have hs0 : W0.heap.size = w.heap.size + 1 := by rw [hW0]; simp
  have x0 : W0.heap[w.heap.size]? = some (.cells #[.slice A0 top.length c0, .slice A1 levels.length c1, .slice A2 sieves.length c2, .int .i64 keep, .int .i64 time, .slice A5 times.length c5] 33 (0, 0)) := by rw [hW0]; exact heap_alloc_new _ _
  have HBX := Lib.hid (show ∀ W, Below W0.heap.size W0 W → _ from fun W hW => st_cells ((hW.block w.heap.size (by omega)).trans x0))
  have HRW := Lib.hid (show ∀ W, Below W0.heap.size W0 W → StM W W.heap.size A0 A1 A2 A5 c0 c1 c2 c5 ⟨top, levels, sieves, keep, time, times⟩ from fun W hW => (hr.below (hbw.trans (hW.mono hbw.size)) (Nat.le_refl _)).more (Nat.le_trans hbw.size hW.size))
  have HB := Lib.hid hbw
  have HW0 := Lib.hid hW0
  obtain ⟨b0, b1, b2, b3, b4, b5⟩ := HBX.out W0 (Below.refl _ _)
  clear hr hbw hs0 x0 hW0 hsm
  go_enter Tryz.func31, Tryz.ntmps31
  go_upto_region 1 with fail
  rw [← HW0.out]
  go_wp2_with fail
  go_at_call 39
  refine Calls.mono (HOK.out W0 (HRW.out W0 (Below.refl _ _))) ?_
  rintro e w1 ⟨b, rfl, hb, hb1⟩
  have HBB := Lib.hid hb
  have HB1 := Lib.hid hb1
  clear hb hb1 b0 b1 b2 b3 b4 b5
  obtain ⟨b0, b1, b2, b3, b4, b5⟩ := HBX.out w1 HB1.out
  cases b with
  | false =>
    go_wp2
    go_ret
    exact ⟨false, by simp [lookZ], (by simpa using HBB.out), HB.out.trans (HB1.out.mono HB.out.size)⟩
  | true =>
    obtain ⟨q0, hq0⟩ : ∃ x, x = keyB k := ⟨_, rfl⟩
    have HQ0 := Lib.hid hq0
    have HK0 := Lib.hid (fun W => keyS k W hk)
    rw [← hq0] at HK0
    clear hq0
    have HSV := Lib.hid (fun (W : World) (L M_ F : ByteArray) (A : Option Addr) (n c : Nat) (l : List ByteArray) (kp : Int) (hL : L.size ≤ maxLen) (hM : M_.size ≤ maxLen) (hF : F.size ≤ maxLen) (hr : Strs W W.heap.size A n l) (hnc : n ≤ c) (hc : c ≤ maxLen) (hfit : ∀ i (h : i < l.length), l[i].size ≤ 1000000000000) => hasSv L M_ F A n c l kp k W hL hM hF hk hr hnc hc hfit)
    clear hk
    cases q0 with
    | false =>
      go_wp2_with (first | (go_at_call 66; refine Calls.mono (HK0.out _) ?_; rintro e w9 ⟨rfl, rfl⟩))
      go_ret
      exact ⟨true, by simp [lookZ, ← HQ0.out], (by simpa using HBB.out), HB.out.trans (HB1.out.mono HB.out.size)⟩
    | true =>
      go_wp2_with fail
      go_at_call 66
      refine Calls.mono (HK0.out _) ?_
      rintro e w9 ⟨rfl, rfl⟩
      clear b0 b1 b3 b4 b5
      have HRS := Lib.hid (Below.refl W0.heap.size W0)
      go_wp2_with fail
      go_loopw [5, 6] (fun nv iv wr => ∃ j m : Nat, j ≤ sieves.length ∧ iv = .int .i64 (j : Nat) ∧ nv = .int .i64 (m : Nat) ∧ m ≤ j ∧ Hid (m = cntK (hasS k) sieves j) ∧ Below W0.heap.size W0 wr) (fun _ iv _ => sieves.length - (intOf iv).toNat)
      case atStart => exact ⟨0, 0, Nat.zero_le _, rfl, rfl, Nat.le_refl _, Lib.hid cntK_zero.symm, HB1.out⟩
      case round =>
        obtain ⟨j, m, hj, rfl, rfl, hmj, HM, hb⟩ := hrel
        clear b2
        obtain ⟨b0, b1, b2, b3, b4, b5⟩ := HBX.out wr hb
        clear b0 b1 b3 b4 b5
        have HBL := Lib.hid hb
        clear hb
        have hn2 : sieves.length ≤ 1048576 := HSM.out.2.2.1.1
        by_cases hlt : j < sieves.length
        · obtain ⟨sb, so, A3, c3, hA2, hsb, s0, s1, s2, s3, s4, hst, e3, e4⟩ := (HRW.out wr HBL.out).sieves.cell j hlt
          have hsx := HSM.out.2.2.1.2 _ (List.getElem_mem hlt)
          obtain ⟨x, hx⟩ : ∃ x, x = sieves[j] := ⟨_, rfl⟩
          have hsx2 : smallS x := by rw [hx]; exact hsx
          obtain ⟨f1, f2, f3, f4⟩ := smallS_fit hsx2
          rw [← hx] at s0 s1 s2 s3 s4 hst e3
          obtain ⟨p, hp⟩ : ∃ p, p = hasS k x := ⟨_, rfl⟩
          have HX := Lib.hid hx
          have HP := Lib.hid hp
          obtain ⟨X0, X1, X2, XR, XK⟩ := x
          have HC := Lib.hid (HSV.out wr X0 X1 X2 A3 XR.length c3 XR XK f1 f2 f3 hst e3 e4 f4)
          have hpe : p = hasO X0 X1 X2 XR XK k := hp
          rw [← hpe] at HC
          subst hA2
          have z0 : (0 : Int) ≤ (j : Int) := by omega
          have z1 : (j : Int) < (sieves.length : Int) := by omega
          clear hsx hsx2 f1 f2 f3 f4 hst e3 e4 hpe hp hx hsb
          go_wp2_with fail
          go_at_call 87
          refine Calls.mono HC.out ?_
          rintro e w2 ⟨rfl, hb2⟩
          have HB2 := Lib.hid (HBL.out.trans (hb2.mono HBL.out.size))
          clear hb2
          cases p with
          | true =>
            have HN := Lib.hid (cntK_yes (p := hasS k) hlt (by rw [← HX.out]; exact HP.out.symm))
            go_wp2
            go_roundw
            case rel => exact ⟨j + 1, m + 1, by omega, by go_num, by go_num, by omega, Lib.hid (by rw [HN.out, HM.out]), HB2.out⟩
            case measure => simp [intOf]; omega
          | false =>
            have HN := Lib.hid (cntK_no (p := hasS k) hlt (by rw [← HX.out]; exact HP.out.symm))
            go_wp2
            go_roundw
            case rel => exact ⟨j + 1, m, by omega, by go_num, by first | rfl | go_num, by omega, Lib.hid (by rw [HN.out, HM.out]), HB2.out⟩
            case measure => simp [intOf]; omega
        · have hke : j = sieves.length := by omega
          subst hke
          have hng : ¬ (sieves.length : Int) < (sieves.length : Int) := by omega
          go_wp2
          go_ret
          exact ⟨true, by rw [HM.out, cntK_all]; simp [lookZ, ← HQ0.out], (by simpa using HBB.out), HB.out.trans (HBL.out.mono HB.out.size)⟩

end Go.Proofs.YtfhpkcamigkmdaaGreatDoor.W
namespace Go.Proofs.YtfhpkcamigkmdaaGreatDoor.W
open Go.RowKit K

theorem count_ones (l : List UInt8) : l.count 49 = M.ones l := by
  induction l with
  | nil => rfl
  | cons c t ih =>
    rw [List.count_cons, ih, show M.ones (c :: t) = (if c = 49 then 1 else 0) + M.ones t from rfl]
    by_cases h : c = 49
    · subst h; simp; omega
    · rw [if_neg h, if_neg (by simpa using h)]; omega
theorem count_zeros : ∀ (l : List UInt8), (∀ c ∈ l, c = 48 ∨ c = 49) → l.count 48 + M.ones l = l.length
  | [], _ => rfl
  | c :: t, h => by
    have ih := count_zeros t fun x hx => h x (by simp [hx])
    rw [List.count_cons, List.length_cons, show M.ones (c :: t) = (if c = 49 then 1 else 0) + M.ones t from rfl]
    rcases h c (by simp) with e | e
    · subst e; simp; omega
    · subst e; simp; omega

/-- a trie that is filled: nodes that are done, one that grows, and nodes that are to come -/
structure Fill (w wr : World) (g K : Nat) (D : T.Tr) (ds : List Value) (nv : Value) (cur : List T.TB) (m : Nat) : Prop where
  gl : g < wr.heap.size
  gw : w.heap.size ≤ g
  len : D.length + 1 + m = K
  row : wr.heap[g]? = some (.cells (ds ++ nv :: List.replicate m (.slice none 0 0)).toArray 197 (0, 0))
  held : HeldT wr (fun k => k = g ∨ nv.ownBlock = some k) ds D
  own : Row 165 1 wr (g + 1) nv cur.length (cur.map brV)
  below : Below w.heap.size w wr
section
variable {w wr : World} {g K m : Nat} {D : T.Tr} {ds : List Value} {nv : Value} {cur : List T.TB}
theorem Fill.dlen (P : Fill w wr g K D ds nv cur m) : ds.length = D.length := P.held.1
theorem Fill.quiet (P : Fill w wr g K D ds nv cur m) {W : World} (hA : Agree wr W (fun _ => False)) (hO : W.os = wr.os ∧ W.tape = wr.tape ∧ W.output = wr.output) : Fill w W g K D ds nv cur m :=
  ⟨Nat.lt_of_lt_of_le P.gl hA.size, P.gw, P.len, by rw [hA.block g P.gl (fun h => h)]; exact P.row, P.held.step fun _ _ _ h => h.step hA (fun _ _ h => h.elim) (fun _ _ h => h), Row.agree P.own hA (fun _ _ h => h),
   ⟨by rw [hO.1]; exact P.below.os, by rw [hO.2.1]; exact P.below.tape, by rw [hO.2.2]; exact P.below.output, Nat.le_trans P.below.size hA.size, fun k hk => by rw [hA.block k (by have := P.below.size; omega) (fun h => h)]; exact P.below.block k hk⟩⟩
/-- the cell of the node that grows -/
theorem Fill.cell (P : Fill w wr g K D ds nv cur m) : wr.cell? ⟨g, D.length, none⟩ = some nv ∧ wr.frozen? ⟨g, D.length, none⟩ = false := by
  constructor
  · rw [cell_of_row _ _ _ _ _ _ P.row]
    rw [List.getElem?_toArray, List.getElem?_append_right (by rw [P.dlen]; exact Nat.le_refl _), P.dlen, Nat.sub_self]; rfl
  · rw [frozen_of_row _ _ _ _ _ P.row]
/-- a branch more -/
theorem Fill.more (P : Fill w wr g K D ds nv cur m) {w1 : World} {nv' : Value} {b : T.TB} (ho : Row 165 1 w1 (g + 1) nv' (cur.length + 1) (cur.map brV ++ [brV b])) (hg : Grew wr w1 nv nv') : Fill w (w1.setCell ⟨g, D.length, none⟩ nv') g K D ds nv' (cur ++ [b]) m := by
  have hn : ∀ k, nv.ownBlock = some k → g + 1 ≤ k ∧ k < wr.heap.size := fun k hk => Row.lt_ P.own hk
  have hn' : ∀ k, nv'.ownBlock = some k → g + 1 ≤ k := fun k hk => (Row.lt_ ho hk).1
  have hgl1 : g < w1.heap.size := Nat.lt_of_lt_of_le P.gl hg.grown.size
  have hrow1 : w1.heap[g]? = some (.cells (ds ++ nv :: List.replicate m (.slice none 0 0)).toArray 197 (0, 0)) := by
    rw [hg.agree.block g P.gl (fun h => by have := (hn g h).1; omega)]; exact P.row
  have hset : Agree w1 (w1.setCell ⟨g, D.length, none⟩ nv') (fun k => k = g) := (Agree.refl w1 (fun k => k = g)).setCell (p := ⟨g, D.length, none⟩) (show g = g from rfl) _
  have hall : Agree wr (w1.setCell ⟨g, D.length, none⟩ nv') (fun k => k = g ∨ nv.ownBlock = some k) := (hg.agree.more fun _ _ h => .inr h).trans (hset.more fun _ _ h => .inl h)
  refine ⟨by simpa using hgl1, P.gw, P.len, ?_, ?_, ?_, ?_⟩
  · have := heap_setCell_same w1 g D.length _ _ nv' hrow1
    rw [this]
    congr 1
    rw [← P.dlen]
    simp
  · refine P.held.step fun _ _ _ h => h.step hall (fun _ _ h => h) (fun k hk h => ?_)
    rcases h with h | h
    · exact .inl h
    · rcases hg.row k h with h1 | h1
      · omega
      · exact .inr h1
  · have h1 : Row 165 1 w1 (g + 1) nv' (cur ++ [b]).length ((cur ++ [b]).map brV) := by
      rw [List.length_append, List.map_append]; exact ho
    exact Row.agree h1 hset (fun k hk e => by have := hn' k hk; have e' : k = g := e; omega)
  · have hb1 := below_grew P.below hg (fun k hk => by have := (hn k hk).1; have := P.gw; omega) P.below.size
    exact hb1.setCell (p := ⟨g, D.length, none⟩) P.gw _
/-- the next node -/
theorem Fill.next {A : Option Addr} {n c : Nat} (P : Fill w wr g K D ds (.slice A n c) cur (m + 1)) : Fill w wr g K (D ++ [cur]) (ds ++ [.slice A n c]) (.slice none 0 0) [] m := by
  obtain ⟨A', c', hv, hc1, hc2⟩ := P.own.parts_
  injection hv with e1 e2 e3
  subst e1 e2 e3
  refine ⟨P.gl, P.gw, by rw [List.length_append]; have := P.len; simp; omega, ?_, ?_, World.ownsRow_nil _ _ _ _, P.below⟩
  · rw [P.row]; simp [List.replicate_succ]
  · refine HeldT.snoc (P.held.step fun _ _ _ h => h.step (Agree.refl _ (fun _ => False)) (fun _ _ h => h.elim) (fun k _ h => ?_)) (Brs.of_row P.own rfl (fun k hk h => ?_)) hc1 hc2
    · rcases h with h | h
      · exact .inl h
      · cases h
    · rcases h with h | h
      · have := (Row.lt_ P.own hk).1; omega
      · cases h
/-- all is filled -/
theorem Fill.trs {A : Option Addr} {n c : Nat} (P : Fill w wr g K D ds (.slice A n c) cur 0) : Trs wr (fun k => wr.heap.size ≤ k) (some ⟨g, 0, none⟩) K (D ++ [cur]) := by
  obtain ⟨A', c', hv, hc1, hc2⟩ := P.own.parts_
  injection hv with e1 e2 e3
  subst e1 e2 e3
  have hh : HeldT wr (fun k => wr.heap.size ≤ k) (ds ++ [.slice A cur.length c]) (D ++ [cur]) :=
    HeldT.snoc (P.held.step fun _ _ _ h => h.step (Agree.refl _ (fun _ => False)) (fun _ _ h => h.elim) (fun k hk h => by have h' : wr.heap.size ≤ k := h; omega)) (Brs.of_row P.own rfl (fun k hk h => by have h' : wr.heap.size ≤ k := h; have := (Row.lt_ P.own hk).2; omega)) hc1 hc2
  refine ⟨by rw [List.length_append]; have := P.len; simp; omega, fun i hi => ?_⟩
  have hi2 : i < (ds ++ [Value.slice A cur.length c]).length := by rw [hh.1]; exact hi
  obtain ⟨Ai, ci, hti, h1, h2, hbr⟩ := hh.2 i hi2 hi
  refine ⟨g, 0, rfl, P.gl, by have := P.gl; omega, Ai, ci, ?_, h1, h2, hbr⟩
  rw [Nat.zero_add, cell_of_row _ _ _ _ _ _ P.row, List.getElem?_toArray, ← hti]
  rw [show ds ++ Value.slice A cur.length c :: List.replicate 0 (.slice none 0 0) = ds ++ [.slice A cur.length c] from rfl, List.getElem?_eq_getElem hi2]
end

end Go.Proofs.YtfhpkcamigkmdaaGreatDoor.W
namespace Go.Proofs.YtfhpkcamigkmdaaGreatDoor.W
open Go.RowKit K

theorem bits_of {s : ByteArray} (h : M.okB s.data.toList = true) : s.size ≤ 400 ∧ ∀ c ∈ s.data.toList, c = 48 ∨ c = 49 := by
  unfold M.okB at h
  simp only [Bool.and_eq_true, decide_eq_true_eq, len_l, List.all_eq_true] at h
  refine ⟨by omega, fun c hc => ?_⟩
  first
    | (have := h.1 c hc; unfold M.bitC at this; simpa using this)
    | (have := h.2 c hc; unfold M.bitC at this; simpa using this)
theorem zeros_of {s : ByteArray} (h : M.okB s.data.toList = true) : ((s.toList.count 48 : Nat) : Int) = s.size - cntI s s.size := by
  have h1 := count_zeros s.data.toList (bits_of h).2
  unfold cntI
  rw [List.take_of_length_le (by simp)]
  have h2 : s.data.toList.length = s.size := by simp
  rw [ByteArray.toList_eq]
  omega

set_option maxHeartbeats 2000000 in
set_option maxRecDepth 100000 in
theorem matchI (L M_ F : ByteArray) (A : Option Addr) (n c : Nat) (keep : Int) (w : World) (hM : M_.size ≤ maxLen) (hF : F.size ≤ maxLen) :
    Calls Tryz.prog 184 #[.agg #[.string L, .string M_, .string F, .slice A n c, .int .i64 keep]] w fun e w' => e = .returned (.bool (formB L M_ F n keep)) ∧ Below w.heap.size w w' := by
  have HM := Lib.hid (fun W => okI M_ W hM)
  have HF := Lib.hid (fun W => okI F W hF)
  have HK := Lib.hid (fun W => keepI keep W)
  have HC := Lib.hid (fun W => countI M_ 48 W)
  have hbl : ∀ o m, Below w.heap.size w ((w.alloc o).drewN m) := fun o m => below_drewN ((Below.refl _ _).alloc (Nat.le_refl _) _) m
  have HBL := Lib.hid hbl
  clear hbl
  by_cases h1 : M_.size = L.size
  · have e1 : ((M_.size : Int) != (L.size : Int)) = false := by rw [h1]; simp
    by_cases h2 : F.size = L.size
    · have e2 : ((F.size : Int) != (L.size : Int)) = false := by rw [h2]; simp
      rcases Bool.eq_false_or_eq_true (M.okB M_.data.toList) with h3 | h3
      · rcases Bool.eq_false_or_eq_true (M.okB F.data.toList) with h4 | h4
        · rcases Bool.eq_false_or_eq_true (inB keep 0 5) with h5 | h5
          · rw [h3] at HM
            rw [h4] at HF
            rw [h5] at HK
            have HZ := Lib.hid (zeros_of h3)
            have HFB := Lib.hid (show formB L M_ F n keep = decide ((n : Int) = L.size - cntI M_ L.size) by unfold formB; rw [h3, h4, h5]; simp [h1, h2])
            have H1 := Lib.hid h1
            obtain ⟨z, hz⟩ : ∃ z : Nat, z = M_.toList.count 48 := ⟨_, rfl⟩
            rw [← hz] at HC HZ
            clear h1 h2 h3 h4 h5 hz
            go_enter Tryz.func184, Tryz.ntmps184
            go_wp2_with (first
              | (go_at_call 202; with_reducible refine (HM.out _).mono ?_; rintro e w1 ⟨rfl, hw⟩; subst hw)
              | (go_at_call 202; with_reducible refine (HF.out _).mono ?_; rintro e w1 ⟨rfl, hw⟩; subst hw)
              | (go_at_call 178; refine (HK.out _).mono ?_; rintro e w1 ⟨rfl, hw⟩; subst hw)
              | fail)
            go_quiet ((go_at_call 185; exact quiet_mine (HC.out _)))
            go_wp2
            go_ret
            refine ⟨ret_bool ?_, HBL.out _ _⟩
            rw [HFB.out, Bool.eq_iff_iff, decide_eq_true_eq]
            have h6 := HZ.out
            rw [H1.out] at h6
            simp only [beq_iff_eq]
            omega
          · rw [h3] at HM
            rw [h4] at HF
            rw [h5] at HK
            have HFB := Lib.hid (show formB L M_ F n keep = false by unfold formB; rw [h5]; simp)
            clear h1
            go_enter Tryz.func184, Tryz.ntmps184
            go_wp2_with (first | (go_at_call 202; with_reducible refine (HM.out _).mono ?_; rintro e w1 ⟨rfl, hw⟩; subst hw) | (go_at_call 202; with_reducible refine (HF.out _).mono ?_; rintro e w1 ⟨rfl, hw⟩; subst hw) | (go_at_call 178; with_reducible refine (HK.out _).mono ?_; rintro e w1 ⟨rfl, hw⟩; subst hw))
            go_ret
            exact ⟨ret_bool HFB.out.symm, (Below.refl _ _).alloc (Nat.le_refl _) _⟩
        · rw [h3] at HM
          rw [h4] at HF
          have HFB := Lib.hid (show formB L M_ F n keep = false by unfold formB; rw [h4]; simp)
          clear h1
          go_enter Tryz.func184, Tryz.ntmps184
          go_wp2_with (first | (go_at_call 202; with_reducible refine (HM.out _).mono ?_; rintro e w1 ⟨rfl, hw⟩; subst hw) | (go_at_call 202; with_reducible refine (HF.out _).mono ?_; rintro e w1 ⟨rfl, hw⟩; subst hw))
          go_ret
          exact ⟨ret_bool HFB.out.symm, (Below.refl _ _).alloc (Nat.le_refl _) _⟩
      · rw [h3] at HM
        have HFB := Lib.hid (show formB L M_ F n keep = false by unfold formB; rw [h3]; simp)
        clear h1
        go_enter Tryz.func184, Tryz.ntmps184
        go_wp2_with (first | (go_at_call 202; with_reducible refine (HM.out _).mono ?_; rintro e w1 ⟨rfl, hw⟩; subst hw))
        go_ret
        exact ⟨ret_bool HFB.out.symm, (Below.refl _ _).alloc (Nat.le_refl _) _⟩
    · have e2 : ((F.size : Int) != (L.size : Int)) = true := by simp; omega
      have HFB := Lib.hid (show formB L M_ F n keep = false by unfold formB; rw [decide_eq_false (p := (F.size : Int) = L.size) (by omega)]; simp)
      clear h1
      go_enter Tryz.func184, Tryz.ntmps184
      go_wp2
      go_ret
      exact ⟨ret_bool HFB.out.symm, (Below.refl _ _).alloc (Nat.le_refl _) _⟩
  · have e1 : ((M_.size : Int) != (L.size : Int)) = true := by simp; omega
    have HFB := Lib.hid (show formB L M_ F n keep = false by unfold formB; rw [decide_eq_false (p := (M_.size : Int) = L.size) (by omega)]; simp)
    clear h1
    go_enter Tryz.func184, Tryz.ntmps184
    go_wp2
    go_ret
    exact ⟨ret_bool HFB.out.symm, (Below.refl _ _).alloc (Nat.le_refl _) _⟩

end Go.Proofs.YtfhpkcamigkmdaaGreatDoor.W
namespace Go.Proofs.YtfhpkcamigkmdaaGreatDoor.W
open Go.RowKit K

/-- which nodes are there, behind so many branches -/
def RStep (s : T.Sv) (i : Nat) (D : T.Tr) (cur : List T.TB) (a : Int) : Prop := (i = 0 ∧ a = -1 ∧ D = [] ∧ cur = []) ∨ (0 < i ∧ a = D.length ∧ s.grp i = D ++ [cur])
section
variable {s : T.Sv} {w wr : World} {g K m i : Nat} {D : T.Tr} {ds : List Value} {nv : Value} {cur : List T.TB} {a : Int}
/-- a node begins -/
theorem rt_new (hf : s.first.length = s.letters.length) (hK : K = s.top) (hi : i < s.letters.length) (hb : ∀ k, k < i → ¬ s.bad k) (h49 : s.first.getD i 0 = 49) (hs : RStep s i D cur a) (P : Fill w wr g K D ds nv cur m) :
    ∃ D' ds' nv' cur' m', Fill w wr g K D' ds' nv' cur' m' ∧ a + 1 = (D'.length : Int) ∧ s.grp (i + 1) = D' ++ [cur' ++ [s.br i]] ∧ s.nds (i + 1) = D'.length + 1 := by
  have hn : s.nds (i + 1) = s.nds i + 1 := by have := T.ones_next s.first i (by omega); rw [if_pos h49] at this; exact this
  have hg : s.grp (i + 1) = s.grp i ++ [[s.br i]] := by have := T.grp_add s (i := i) rfl _ rfl; rw [if_pos h49] at this; exact this
  rcases hs with ⟨rfl, rfl, rfl, rfl⟩ | ⟨h0, ha, hgr⟩
  · exact ⟨[], ds, nv, [], m, P, rfl, by rw [hg]; rfl, by rw [hn]; rfl⟩
  · have hl := T.grp_len s hf i (by omega) hb
    rw [hgr, List.length_append] at hl
    have htop : s.nds (i + 1) ≤ T.Sv.top s := by
      have h1 : s.nds (i + 1) ≤ M.ones s.first := by
        have h2 := T.ones_take_mono s.first (i := i + 1) (j := s.first.length) (by omega)
        rw [List.take_length] at h2; exact h2
      unfold T.Sv.top; omega
    have hpl := P.len
    obtain ⟨m', rfl⟩ : ∃ m', m = m' + 1 := ⟨m - 1, by simp at hl; omega⟩
    obtain ⟨A, c, hv, -, -⟩ := P.own.parts_
    subst hv
    refine ⟨D ++ [cur], _, _, [], m', P.next, by rw [ha, List.length_append]; simp, by rw [hg, hgr]; rfl, ?_⟩
    rw [hn, ← hl]; simp
/-- the node goes on -/
theorem rt_same (hf : s.first.length = s.letters.length) (hi : i < s.letters.length) (hb : ∀ k, k < i → ¬ s.bad k) (h48 : ¬ s.first.getD i 0 = 49) (h0 : 0 < i) (hs : RStep s i D cur a) :
    a = (D.length : Int) ∧ s.grp (i + 1) = D ++ [cur ++ [s.br i]] ∧ s.nds (i + 1) = D.length + 1 := by
  rcases hs with ⟨rfl, -⟩ | ⟨-, ha, hgr⟩
  · omega
  · have hn : s.nds (i + 1) = s.nds i := by have := T.ones_next s.first i (by omega); rw [if_neg h48] at this; exact this
    have hg : s.grp (i + 1) = T.snocL (s.grp i) (s.br i) := by have := T.grp_add s (i := i) rfl _ rfl; rw [if_neg h48] at this; exact this
    have hl := T.grp_len s hf i (by omega) hb
    refine ⟨ha, by rw [hg, hgr, T.snocL_eq], ?_⟩
    rw [hn, ← hl, hgr]; simp
/-- the first branch begins no node -/
theorem rt_bad (hf : s.first.length = s.letters.length) (hi : 0 < s.letters.length) (h48 : ¬ s.first.getD 0 0 = 49) : s.bad 0 := by
  left
  have := T.ones_next s.first 0 (by omega)
  rw [if_neg h48] at this
  exact this
/-- all branches are read -/
theorem rt_end (hf : s.first.length = s.letters.length) (hK : K = s.top) (hb : ∀ k, k < s.letters.length → ¬ s.bad k) (hs : RStep s s.letters.length D cur a) (P : Fill w wr g K D ds nv cur m) : m = 0 ∧ s.rd = D ++ [cur] := by
  rcases hs with ⟨h0, -, rfl, rfl⟩ | ⟨h0, -, hgr⟩
  · have hff : s.first = [] := List.eq_nil_of_length_eq_zero (by omega)
    have ht : s.top = 1 := by unfold T.Sv.top; rw [hff]; rfl
    have := P.len
    refine ⟨by simp at this; omega, by unfold T.Sv.rd; rw [if_pos h0]; rfl⟩
  · have hl := T.grp_len s hf _ (Nat.le_refl _) hb
    rw [hgr, List.length_append] at hl
    have e : s.nds s.letters.length = M.ones s.first := by unfold T.Sv.nds; rw [← hf, List.take_length]
    have := P.len
    refine ⟨?_, by unfold T.Sv.rd; rw [if_neg (by omega)]; exact hgr⟩
    unfold T.Sv.top at hK
    simp at hl
    omega
end
theorem grp_sum (s : T.Sv) : ∀ i, ((s.grp i).map List.length).sum = i
  | 0 => rfl
  | i + 1 => by
    have ih := grp_sum s i
    unfold T.Sv.grp
    split
    · rw [List.map_append, List.sum_append, ih]; rfl
    · by_cases h : s.grp i = []
      · rw [h] at ih ⊢
        have : i = 0 := ih.symm
        subst this
        rfl
      · rw [T.snocL_sum h, ih]
theorem cur_le {s : T.Sv} {i : Nat} {D : T.Tr} {cur : List T.TB} {b : T.TB} (h : s.grp (i + 1) = D ++ [cur ++ [b]]) : cur.length ≤ i := by
  have h1 := grp_sum s (i + 1)
  rw [h, List.map_append, List.sum_append] at h1
  simp at h1
  omega
theorem cell_one {w : World} {b : Nat} {x : Value} {t : TypeId} (h : w.heap[b]? = some (.cells #[x] t (0, 0))) : ∀ (j : Nat) (u : Value), [x][j]? = some u → w.cell? ⟨b, j, none⟩ = some u := by
  intro j u hj
  rw [cell_of_row _ _ _ _ _ _ h]
  match j, hj with
  | 0, hj => simpa using hj
theorem ones_le_len (l : List UInt8) : M.ones l ≤ l.length := M.ones_le l
/-- a rest is there for a branch that ends -/
theorem rest_in {s : T.Sv} (hm : s.more.length = s.letters.length) (hr : s.rests.length + M.ones s.more = s.letters.length) {i : Nat} (hi : i < s.letters.length) (h48 : ¬ s.more.getD i 0 = 49) : i - s.rank i < s.rests.length ∧ s.rank i ≤ i ∧ s.rank (i + 1) = s.rank i := by
  have h1 : s.rank (i + 1) = s.rank i := by have := T.ones_next s.more i (by omega); rw [if_neg h48] at this; exact this
  have h2 : M.ones s.more = s.rank (i + 1) + M.ones (s.more.drop (i + 1)) := by
    conv => lhs; rw [← List.take_append_drop (i + 1) s.more]
    rw [M.ones_append]; rfl
  have h3 := ones_le_len (s.more.drop (i + 1))
  rw [List.length_drop] at h3
  have h4 : s.rank i ≤ i := by have := ones_le_len (s.more.take i); rw [List.length_take] at this; show M.ones _ ≤ i; omega
  exact ⟨by omega, h4, h1⟩
theorem fill_start (w w1 : World) (K : Nat) (h1 : 0 < K) (hb : Below w.heap.size w w1) : Fill w (w1.alloc (.cells (List.replicate K (Value.slice none 0 0)).toArray 197)) w1.heap.size K [] [] (.slice none 0 0) [] (K - 1) := by
  refine ⟨by simp, hb.size, by simp; omega, ?_, HeldT.nil _ _, World.ownsRow_nil _ _ _ _, hb.alloc hb.size _⟩
  rw [heap_alloc_new]
  obtain ⟨k, rfl⟩ : ∃ k, K = k + 1 := ⟨K - 1, by omega⟩
  rw [List.replicate_succ]
  rfl

end Go.Proofs.YtfhpkcamigkmdaaGreatDoor.W
namespace Go.Proofs.YtfhpkcamigkmdaaGreatDoor.T
/-- what a filter keeps of what it keeps is all of it -/
theorem kept_self {s : Sv} (h : isSv s) {x : Str} (hx : x ∈ s.heads) : kept s.keep s.heads x = x := by
  obtain ⟨hK, -, -, he⟩ := h
  have h1 : (sieve s.keep s.heads).heads = heads s.keep s.heads := heads_of hK s.keep
  rw [← he] at h1
  obtain ⟨i, hi, rfl⟩ := List.mem_iff_getElem.mp hx
  have h2 : (heads s.keep s.heads)[i]? = some s.heads[i] := by rw [← h1]; exact List.getElem?_eq_getElem hi
  unfold heads at h2
  rw [List.getElem?_map, List.getElem?_eq_getElem hi] at h2
  simpa using h2
end Go.Proofs.YtfhpkcamigkmdaaGreatDoor.T
namespace Go.Proofs.YtfhpkcamigkmdaaGreatDoor.W
open Go.RowKit K

end Go.Proofs.YtfhpkcamigkmdaaGreatDoor.W
namespace Go.Proofs.YtfhpkcamigkmdaaGreatDoor.W
open Go.RowKit K

/-- a filter that is one in mathematics is one -/
theorem svB_of {L M F : ByteArray} {l : List ByteArray} {kp : Nat} (hf : formB L M F l.length kp = true) (h : T.isSv (svOf L M F l kp)) : svB L M F l kp = true := by
  obtain ⟨h1, h2, h3, h4⟩ := h
  unfold svB
  rw [hf, Bool.true_and, Int.toNat_natCast]
  unfold backB
  have hk : keysB (hsOf L M F l kp) = true := by unfold hsOf; exact keysB_of h1 h2
  have e1 : (T.sieve kp (svOf L M F l kp).heads).letters = L.toList := by have := congrArg T.Sv.letters h4; exact this.symm
  have e2 : (T.sieve kp (svOf L M F l kp).heads).more = M.toList := by have := congrArg T.Sv.more h4; exact this.symm
  have e3 : (T.sieve kp (svOf L M F l kp).heads).first = F.toList := by have := congrArg T.Sv.first h4; exact this.symm
  have e4 : (T.sieve kp (svOf L M F l kp).heads).rests = l.map (·.toList) := by have := congrArg T.Sv.rests h4; exact this.symm
  rw [hk, e1, e2, e3, e4, ba_of, ba_of, ba_of]
  have e5 : (l.map (·.toList)).map ba = l := by
    rw [List.map_map]
    have : ∀ y ∈ l, (ba ∘ fun z : ByteArray => z.toList) y = id y := fun y _ => ba_of y
    rw [List.map_congr_left this, List.map_id]
  rw [e5]
  simp [eqs_iff, sameL_self]
/-- what is kept, and whether it is all, of what is read of a filter -/
def kpt (s : T.Sv) : List (T.Str × Bool) := T.hdT s.rd s.rd.length 0 []
/-- of a filter that is one -/
theorem kpt_is {s : T.Sv} (h : T.isSv s) : s.rdOk ∧ kpt s = s.heads.map (fun k => (k, T.whole s.keep s.heads k)) ∧ s.rd = T.trN s.keep 1 (T.forks s.heads) := by
  obtain ⟨h1, h2, h3, h4⟩ := h
  obtain ⟨g1, g2⟩ := T.rd_sieve h1 s.keep
  rw [← h4] at g1 g2
  refine ⟨g1, ?_, g2⟩
  have hah : T.Ahead s.rd := by
    have hb : ∀ i, i < s.more.length → s.more.getD i 0 = 48 ∨ s.more.getD i 0 = 49 := by
      intro i hi
      have e : s.more = T.more (T.forks s.heads) := congrArg T.Sv.more h4
      rw [e] at hi ⊢
      have hm : (T.more (T.forks s.heads)).getD i 0 ∈ T.more (T.forks s.heads) := by rw [List.getD_eq_getElem?_getD, List.getElem?_eq_getElem hi]; exact List.getElem_mem hi
      obtain ⟨f, -, hf⟩ := List.mem_flatMap.mp hm
      obtain ⟨b, -, hb⟩ := List.mem_map.mp hf
      rw [← hb]
      cases T.goes b
      · exact .inl rfl
      · exact .inr rfl
    have hl1 : s.more.length = s.letters.length := by rw [h4]; show (T.more _).length = (T.letters _).length; rw [T.len_more, T.len_letters]
    have hl2 : s.first.length = s.letters.length := by rw [h4]; show (T.firsts _).length = (T.letters _).length; rw [T.len_firsts, T.len_letters]
    exact (T.rd_ok s hl1 hl2 hb g1).1
  unfold kpt
  rw [T.hd_fuel hah s.rd.length (s.rd.length + 6) 0 [] (by omega) (by omega), g2, T.hd_sieve h1 s.keep (by omega)]
  refine List.map_congr_left fun k hk => ?_
  rw [T.kept_self ⟨h1, h2, h3, h4⟩ hk]
/-- a filter is one just if it is that of what is read of it -/
theorem sv_iff {s : T.Sv} (hkp : s.keep ≤ 5) : T.isSv s ↔ s.rdOk ∧ T.KeyL ((kpt s).map (·.1)) ∧ ((kpt s).map (·.1)).length ≤ 24 ∧ T.sieve s.keep ((kpt s).map (·.1)) = s := by
  constructor
  · intro h
    obtain ⟨g1, g2, -⟩ := kpt_is h
    have e : (kpt s).map (·.1) = s.heads := by rw [g2, List.map_map]; exact List.map_id _
    rw [e]
    obtain ⟨h1, h2, h3, h4⟩ := h
    exact ⟨g1, h1, h2, h4.symm⟩
  · rintro ⟨-, h1, h2, h3⟩
    exact T.isSv_iff.mpr ⟨_, s.keep, h1, h2, hkp, h3.symm⟩

set_option maxHeartbeats 2000000 in
theorem sameI (L M F L2 M2 F2 : ByteArray) (A A2 : Option Addr) (n c n2 c2 : Nat) (l l2 : List ByteArray) (keep : Int) (w : World) (hr : Strs w w.heap.size A n l) (hr2 : Strs w w.heap.size A2 n2 l2) (hn : n ≤ maxLen) (hn2 : n2 ≤ maxLen) :
    Calls Tryz.prog 116 #[.agg #[.string L, .string M, .string F, .slice A n c, .int .i64 keep], .agg #[.string L2, .string M2, .string F2, .slice A2 n2 c2, .int .i64 keep]] w fun e w' => e = .returned (.bool (eqs L L2 && (eqs M M2 && (eqs F F2 && sameL l l2)))) ∧ Below w.heap.size w w' := by
  have hbw : Below w.heap.size w ((w.alloc (Obj.cells #[.string L, .string M, .string F, .slice A n c, .int .i64 keep] 92)).alloc (Obj.cells #[.string L2, .string M2, .string F2, .slice A2 n2 c2, .int .i64 keep] 92)) := ((Below.refl _ _).alloc (Nat.le_refl _) _).alloc (by simp) _
  have HSA := Lib.hid (equalI _ w.heap.size n c n2 c2 A A2 l l2 (hr.below hbw (Nat.le_refl _)) (hr2.below hbw (Nat.le_refl _)) hn hn2)
  have HBW := Lib.hid hbw
  clear hr hr2 hbw
  rcases Bool.eq_false_or_eq_true (L.toList == L2.toList) with g1 | g1
  · rcases Bool.eq_false_or_eq_true (M.toList == M2.toList) with g2 | g2
    · rcases Bool.eq_false_or_eq_true (F.toList == F2.toList) with g3 | g3
      · have G0 := Lib.hid (show (eqs L L2 && (eqs M M2 && (eqs F F2 && sameL l l2))) = sameL l l2 by have e1 : eqs L L2 = true := g1; have e2 : eqs M M2 = true := g2; have e3 : eqs F F2 = true := g3; rw [e1, e2, e3]; rfl)
        rcases Bool.eq_false_or_eq_true (sameL l l2) with g5 | g5
        · rw [g5] at HSA
          have G1 := Lib.hid (G0.out.trans g5)
          clear g5
          go_enter Tryz.func116, Tryz.ntmps116
          go_wp2_with (go_at_call 152; refine HSA.out.mono ?_; rintro e w1 ⟨rfl, m1, rfl⟩)
          go_ret
          exact ⟨ret_bool G1.out.symm, below_drewN HBW.out _⟩
        · rw [g5] at HSA
          have G1 := Lib.hid (G0.out.trans g5)
          clear g5
          go_enter Tryz.func116, Tryz.ntmps116
          go_wp2_with (go_at_call 152; refine HSA.out.mono ?_; rintro e w1 ⟨rfl, m1, rfl⟩)
          go_ret
          exact ⟨ret_bool G1.out.symm, below_drewN HBW.out _⟩
      · have G0 := Lib.hid (show (eqs L L2 && (eqs M M2 && (eqs F F2 && sameL l l2))) = false by have e1 : eqs L L2 = true := g1; have e2 : eqs M M2 = true := g2; have e3 : eqs F F2 = false := g3; rw [e1, e2, e3]; rfl)
        go_enter Tryz.func116, Tryz.ntmps116
        go_wp2
        go_ret
        exact ⟨ret_bool G0.out.symm, HBW.out⟩
    · have G0 := Lib.hid (show (eqs L L2 && (eqs M M2 && (eqs F F2 && sameL l l2))) = false by have e1 : eqs L L2 = true := g1; have e2 : eqs M M2 = false := g2; rw [e1, e2]; rfl)
      go_enter Tryz.func116, Tryz.ntmps116
      go_wp2
      go_ret
      exact ⟨ret_bool G0.out.symm, HBW.out⟩
  · have G0 := Lib.hid (show (eqs L L2 && (eqs M M2 && (eqs F F2 && sameL l l2))) = false by have e1 : eqs L L2 = false := g1; rw [e1]; rfl)
    go_enter Tryz.func116, Tryz.ntmps116
    go_wp2
    go_ret
    exact ⟨ret_bool G0.out.symm, HBW.out⟩

end Go.Proofs.YtfhpkcamigkmdaaGreatDoor.W
namespace Go.Proofs.YtfhpkcamigkmdaaGreatDoor.T
open M
/-- what a branch that ends keeps is one of the rests, or nothing -/
theorem grp_en (s : Sv) : ∀ i, ∀ n ∈ s.grp i, ∀ c r b, TB.en c r b ∈ n → ∃ k, r = s.rests.getD k []
  | 0, n, hn, _, _, _, _ => by cases hn
  | i + 1, n, hn, c, r, b, hb => by
    have hbr : TB.en c r b = s.br i → ∃ k, r = s.rests.getD k [] := by
      intro e
      unfold Sv.br at e
      split at e
      · injection e with e1 e2 e3
        exact ⟨_, e2⟩
      · cases e
    unfold Sv.grp at hn
    split at hn
    · rcases List.mem_append.mp hn with h | h
      · exact grp_en s i n h c r b hb
      · rw [List.mem_singleton.mp h] at hb
        exact hbr (List.mem_singleton.mp hb)
    · unfold snocL at hn
      rcases List.mem_append.mp hn with h | h
      · exact grp_en s i n (List.dropLast_subset _ h) c r b hb
      · rw [List.mem_singleton.mp h] at hb
        rcases List.mem_append.mp hb with h1 | h1
        · by_cases h0 : s.grp i = []
          · rw [h0] at h1; cases h1
          · have e : (s.grp i).getLastD [] = (s.grp i).getLast h0 := by rw [List.getLastD_eq_getLast?, List.getLast?_eq_some_getLast h0]; rfl
            rw [e] at h1
            exact grp_en s i _ (List.getLast_mem h0) c r b h1
        · exact hbr (List.mem_singleton.mp h1)
theorem rd_en (s : Sv) : ∀ n ∈ s.rd, ∀ c r b, TB.en c r b ∈ n → ∃ k, r = s.rests.getD k [] := by
  unfold Sv.rd
  split
  · intro n hn c r b hb
    rw [List.mem_singleton.mp hn] at hb
    cases hb
  · exact grp_en s _
/-- what is kept is not long -/
theorem hd_short {t : Tr} {B : Nat} (ht : ∀ n ∈ t, ∀ c r b, TB.en c r b ∈ n → r.length ≤ B) : ∀ (n j : Nat) (way : Str), ∀ h ∈ hdT t n j way, h.1.length ≤ way.length + n + B
  | 0, _, _, h, hh => by cases hh
  | n + 1, j, way, h, hh => by
    unfold hdT at hh
    obtain ⟨b, hb, hx⟩ := List.mem_flatMap.mp hh
    have hw : ∀ c, (wayL c).length ≤ 1 := fun c => by unfold wayL; split <;> simp
    cases b with
    | on c m =>
      have := hd_short ht n m (way ++ wayL c) h hx
      rw [List.length_append] at this
      have := hw c
      omega
    | en c r w =>
      have e := List.mem_singleton.mp hx
      rw [e]
      have hn : t.getD j [] ∈ t ∨ t.getD j [] = [] := by
        rcases Nat.lt_or_ge j t.length with hj | hj
        · left; rw [List.getD_eq_getElem?_getD, List.getElem?_eq_getElem hj]; exact List.getElem_mem hj
        · right; rw [List.getD_eq_getElem?_getD, List.getElem?_eq_none hj]; rfl
      rcases hn with hn | hn
      · have h1 := ht _ hn c r w hb
        have h2 := hw c
        show (way ++ wayL c ++ r).length ≤ _
        rw [List.length_append, List.length_append]
        omega
      · rw [hn] at hb; cases hb
end Go.Proofs.YtfhpkcamigkmdaaGreatDoor.T
namespace Go.Proofs.YtfhpkcamigkmdaaGreatDoor.W
open Go.RowKit K

/-- what holds of a filter of the right form that can be read -/
structure RdFit (L M_ F : ByteArray) (l : List ByteArray) (kp : Nat) : Prop where
  ahead : T.Ahead (svOf L M_ F l kp).rd
  len : (svOf L M_ F l kp).rd.length = (svOf L M_ F l kp).top
  pos : 0 < (svOf L M_ F l kp).rd.length
  top : (svOf L M_ F l kp).top ≤ 401
  cnt : (kpt (svOf L M_ F l kp)).length ≤ 400
  nodes : ∀ n ∈ (svOf L M_ F l kp).rd, n.length ≤ 1000 ∧ ∀ c r b, T.TB.en c r b ∈ n → r.length ≤ 1000000000000
  short : ∀ h ∈ kpt (svOf L M_ F l kp), h.1.length ≤ 2000000000000
theorem rd_fit {L M_ F : ByteArray} {l : List ByteArray} {kp : Nat} (hfo : formB L M_ F l.length kp = true) (hfit : ∀ i (h : i < l.length), l[i].size ≤ 1000000000000) (hok : (svOf L M_ F l kp).rdOk) : RdFit L M_ F l kp := by
  obtain ⟨p1, p2, p3, p4, -, p6⟩ := form_parts hfo
  have hll : (svOf L M_ F l kp).letters.length = L.size := len_L L
  have hm : (svOf L M_ F l kp).more.length = (svOf L M_ F l kp).letters.length := by show M_.toList.length = L.toList.length; rw [len_L, len_L, p1]
  have hf : (svOf L M_ F l kp).first.length = (svOf L M_ F l kp).letters.length := by show F.toList.length = L.toList.length; rw [len_L, len_L, p2]
  have hbit : ∀ i, i < (svOf L M_ F l kp).more.length → (svOf L M_ F l kp).more.getD i 0 = 48 ∨ (svOf L M_ F l kp).more.getD i 0 = 49 := by
    intro i hi
    have hb := (bits_of (s := M_) (by unfold formB at hfo; simp only [Bool.and_eq_true] at hfo; exact hfo.1)).2
    have hi2 : i < M_.size := by have : M_.toList.length = M_.size := len_L M_; have h2 : i < M_.toList.length := hi; omega
    have e : (svOf L M_ F l kp).more.getD i 0 = M_[i] := at_L M_ i hi2
    rw [e]
    exact hb _ (List.mem_of_getElem? (at_k M_ i hi2))
  obtain ⟨h1, h2, h3⟩ := T.rd_ok _ hm hf hbit hok
  have htop : (svOf L M_ F l kp).top ≤ 401 := by
    unfold T.Sv.top
    have := M.ones_le (svOf L M_ F l kp).first
    omega
  have htop1 : 0 < (svOf L M_ F l kp).top := by unfold T.Sv.top; omega
  have hres : ∀ k, ((svOf L M_ F l kp).rests.getD k []).length ≤ 1000000000000 := by
    intro k
    show ((l.map (·.toList)).getD k []).length ≤ _
    rw [List.getD_eq_getElem?_getD, List.getElem?_map]
    rcases Nat.lt_or_ge k l.length with hk | hk
    · rw [List.getElem?_eq_getElem hk]
      show l[k].toList.length ≤ _
      rw [len_L]; exact hfit k hk
    · rw [List.getElem?_eq_none hk]; exact Nat.zero_le _
  have hen : ∀ n ∈ (svOf L M_ F l kp).rd, ∀ c r b, T.TB.en c r b ∈ n → r.length ≤ 1000000000000 := by
    intro n hn c r b hb
    obtain ⟨k, hk⟩ := T.rd_en _ n hn c r b hb
    rw [hk]; exact hres k
  refine ⟨h1, h2, by omega, htop, by unfold kpt; have := h3 []; omega, fun n hn => ⟨?_, hen n hn⟩, ?_⟩
  · have hs : ((svOf L M_ F l kp).rd.map List.length).sum ≤ 400 := by
      unfold T.Sv.rd
      split
      · exact Nat.zero_le _
      · rw [grp_sum]; omega
    have aux : ∀ (t : T.Tr), n ∈ t → n.length ≤ (t.map List.length).sum := by
      intro t
      induction t with
      | nil => intro h; cases h
      | cons a t ih =>
        intro h
        rw [List.map_cons, List.sum_cons]
        rcases List.mem_cons.mp h with rfl | h
        · omega
        · have := ih h; omega
    have := aux _ hn
    omega
  · intro h hh
    have := T.hd_short hen _ _ _ h hh
    simp at this
    omega

end Go.Proofs.YtfhpkcamigkmdaaGreatDoor.W
