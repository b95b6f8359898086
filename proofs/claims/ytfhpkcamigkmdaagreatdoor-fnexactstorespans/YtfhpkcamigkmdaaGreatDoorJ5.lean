/-
  Contracts of the model's l3Group (the keys of a fork with its first one's letter) and l3Heads (what is kept of each key, at every filter of the right form).
  Contract of the model's l3Heads: what is kept of each key, at every filter of the right form.
  Memory of forks: slices of strings, and of forks, that lie apart from a row that grows; appending a fork.
  Contract of the model's l3Put: the branches of a fork put behind a filter's, and the forks to which they lead.
-/
import Derived.Test.YtfhpkcamigkmdaaGreatDoorJ4
import Derived.Test.YtfhpkcamigkmdaaGreatDoorZAA
import Derived.Test.YtfhpkcamigkmdaaGreatDoorJ1
import Derived.Deep.RegionWith
import Derived.Deep.LoopGhost
import Derived.Deep.AppendLies
import Derived.Deep.RegionLaw
import Derived.Deep.CutRange
import Derived.Laws.ResultCell
namespace Go.Proofs.YtfhpkcamigkmdaaGreatDoor.W
open Go.RowKit K

/-- strings as lists of letters -/
def ls (l : List ByteArray) : List T.Str := l.map (·.toList)
/-- the keys with the first one's letter -/
def grpS (l : List ByteArray) (d : Nat) : List ByteArray := l.filter fun x => (letS x d).toList == (letS (l.headD ⟨#[]⟩) d).toList
theorem grpS_l (k : ByteArray) (t : List ByteArray) (d : Nat) : ls (grpS (k :: t) d) = T.group k.toList (ls t) d := by
  unfold ls grpS T.group
  have e : k.toList :: t.map (·.toList) = (k :: t).map (·.toList) := rfl
  rw [e, List.filter_map]
  congr 1
  refine List.filter_congr fun x _ => ?_
  simp only [List.headD_cons, letS_l, Function.comp]
  simp
theorem grpS_take {l : List ByteArray} {d i : Nat} (h : i < l.length) (k : ByteArray) : (l.take (i + 1)).filter (fun x => (letS x d).toList == (letS k d).toList) = (l.take i).filter (fun x => (letS x d).toList == (letS k d).toList) ++ (if ((letS l[i] d).toList == (letS k d).toList) = true then [l[i]] else []) := by
  rw [List.take_add_one, List.getElem?_eq_getElem h, List.filter_append]
  congr 1
  by_cases hk : ((letS l[i] d).toList == (letS k d).toList) = true
  · rw [if_pos hk]; simp only [Option.toList_some, List.filter_cons, hk]; rfl
  · rw [if_neg hk]; simp only [Option.toList_some, List.filter_cons, hk]; rfl

theorem Own.emptyAt (w : World) (base g : Nat) (hg : g = w.heap.size) (hb : base ≤ g) : Own (w.alloc (.cells #[] 9)) base (.slice (some ⟨g, 0, none⟩) 0 0) [] := by
  subst hg; exact Own.empty w base hb

set_option maxHeartbeats 1000000 in
theorem groupS (w : World) (B n c d : Nat) (A : Option Addr) (l : List ByteArray) (hr : Strs w B A n l) (hB : B ≤ w.heap.size) (hn : n ≤ 1000000) (hd : d < 1000) :
    Calls Tryz.prog 175 #[.agg #[.slice A n c, .int .i64 d]] w (New w (grpS l d)) := by
  have hlen := hr.len
  subst hlen
  have HR := Lib.hid hr
  clear hr
  unfold grpS
  generalize hk0 : l.headD ⟨#[]⟩ = k0
  have HK0 := Lib.hid hk0
  clear hk0
  go_enter Tryz.func175, Tryz.ntmps175
  go_wp2
  go_loopw [3, 4] (fun out i wr => ∃ k : Nat, k ≤ l.length ∧ i = .int .i64 (k : Nat) ∧ Own wr (w.heap.size + 1) out ((l.take k).filter fun x => (letS x d).toList == (letS k0 d).toList) ∧ Below (w.heap.size + 1) (w.alloc (Obj.cells #[.slice A l.length c, .int .i64 d] 155)) wr) (fun _ i _ => l.length - (intOf i).toNat)
  case atStart => exact ⟨0, Nat.zero_le _, rfl, Own.emptyAt _ _ _ (by simp) (Nat.le_refl _), (Below.refl _ _).alloc (by simp) _⟩
  case round =>
    obtain ⟨k, hk, rfl, ho, hb⟩ := hrel
    have HO := Lib.hid ho
    have HB := Lib.hid hb
    have hsz : w.heap.size + 1 ≤ wr.heap.size := by have := hb.size; simpa using this
    have hbox : wr.heap[w.heap.size]? = some (Obj.cells #[.slice A l.length c, .int .i64 d] 155) := by rw [hb.block _ (by omega)]; exact heap_alloc_new _ _
    have hb0 : wr.cell? ⟨w.heap.size, 0, none⟩ = some (.slice A l.length c) := by rw [cell_of_row _ _ _ _ _ _ hbox]; rfl
    have hb1 : wr.cell? ⟨w.heap.size, 1, none⟩ = some (.int .i64 d) := by rw [cell_of_row _ _ _ _ _ _ hbox]; rfl
    have HBW := Lib.hid (show Below w.heap.size w wr from ((Below.refl _ _).alloc (Nat.le_refl _) _).trans (hb.mono (by omega)))
    clear ho hb hbox
    by_cases hlt : k < l.length
    · have hl0 : 0 < l.length := by omega
      obtain ⟨b, off, hA, hbB, hc⟩ := (HR.out.below HBW.out hB).cell k hlt
      obtain ⟨b', off', hA', _, hc0⟩ := (HR.out.below HBW.out hB).cell 0 hl0
      subst hA
      simp only [Option.some.injEq, Addr.mk.injEq, and_true] at hA'
      obtain ⟨rfl, rfl⟩ := hA'
      rw [Nat.add_zero] at hc0
      have HH := Lib.hid (show k0 = l[0] by rw [← HK0.out]; cases l with | nil => simp at hl0 | cons a t => rfl)
      have hfl : ((l.take k).filter fun x => (letS x d).toList == (letS k0 d).toList).length ≤ l.length := Nat.le_trans (List.length_filter_le _ _) (by rw [List.length_take]; omega)
      have hx0 : (0 : Int) ≤ (k : Int) := by omega
      have hx1 : (k : Int) < (l.length : Int) := by omega
      have hx2 : (0 : Int) < (l.length : Int) := by omega
      rcases Bool.eq_false_or_eq_true ((letS l[k] d).toList == (letS l[0] d).toList) with he | he
      · have HE := Lib.hid he
        go_wp2
        go_quiet ((go_at_call 166; exact quiet_mine (letterS _ _ _ hd)))
        go_wp2_with (at_builtin; refine app_str rfl (.tmp 29) (.tmp 35) rfl _ (w.heap.size + 1) _ ((l.take k).filter fun x => (letS x d).toList == (letS k0 d).toList) rfl (Own.alloc (w := wr) HO.out _) wr.heap.size 1 _ rfl (cell_new _ _ _) (by omega) (le_alloc hsz _) ?_; intro g cap w1 ho1 hg1)
        have HO1 := Lib.hid ho1
        have HB1 := Lib.hid (Below.app (Below.alloc (below_drewN HB.out nq) hsz _) (Own.alloc (w := wr.drewN nq) HO.out _) (Nat.le_refl _) hg1 (le_alloc hsz _))
        clear ho1 hg1
        go_wp2
        go_roundw
        case rel => exact ⟨k + 1, by omega, by go_num, by rw [grpS_take hlt, if_pos (by rw [HH.out]; exact HE.out)]; exact HO1.out, HB1.out⟩
        case measure => simp [intOf]; omega
      · have HE := Lib.hid he
        go_wp2
        go_quiet ((go_at_call 166; exact quiet_mine (letterS _ _ _ hd)))
        go_wp2
        go_roundw
        case rel => exact ⟨k + 1, by omega, by go_num, by rw [grpS_take hlt, if_neg (by rw [HH.out, HE.out]; simp), List.append_nil]; exact HO.out, below_drewN HB.out _⟩
        case measure => simp [intOf]; omega
    · have hke : k = l.length := by omega
      subst hke
      rw [List.take_of_length_le (Nat.le_refl _)] at HO
      go_wp2
      go_ret
      exact ⟨_, rfl, HO.out.base (by omega), HBW.out⟩

end Go.Proofs.YtfhpkcamigkmdaaGreatDoor.W

namespace Go.Proofs.YtfhpkcamigkmdaaGreatDoor.W
open Go.RowKit K

theorem Strs.heap {w w' : World} {B n : Nat} {A : Option Addr} {l : List ByteArray} (h : Strs w B A n l) (hh : w'.heap = w.heap) : Strs w' B A n l :=
  h.keep fun b o _ => World.cell?_of_block (w := w) (by show w'.heap[b]? = _; rw [hh])
theorem Own.heap {w w' : World} {base : Nat} {v : Value} {l : List ByteArray} (h : Own w base v l) (hh : w'.heap = w.heap) : Own w' base v l := by
  unfold Own World.ownsRow at *
  rw [hh]; exact h
theorem Below.heap {B : Nat} {a w w' : World} (h : Below B a w) (h1 : w'.heap = w.heap) (h2 : w'.os = w.os) (h3 : w'.tape = w.tape) (h4 : w'.output = w.output) : Below B a w' :=
  ⟨h2.trans h.os, h3.trans h.tape, h4.trans h.output, by rw [h1]; exact h.size, fun k hk => by rw [h1]; exact h.block k hk⟩

/-- l3Heads, from its call of l3Add on -/
theorem heads_add (L M F : ByteArray) (A : Option Addr) (n c : Nat) (l : List ByteArray) (keep : Nat) (B : Nat) (w : World) (hLM : M.size = L.size) (hF : F.size = L.size) (hL : L.size ≤ 400) (hn : n ≤ 1000) (hfit : ∀ i (h : i < l.length), l[i].size ≤ 1000000000000)
    (hr : Strs w B A n l) (hB : B ≤ w.heap.size) (W : World) (hW : W.heap = ((w.alloc (Obj.cells #[.string L, .string M, .string F, .slice A n c, .int .i64 keep] 92)).alloc (Obj.cells #[] 9)).heap) (h2 : W.os = w.os) (h3 : W.tape = w.tape) (h4 : W.output = w.output) (to_ : Nat) (hto : (to_ : Int) = oneOr F 1) :
    Calls Tryz.prog 161 #[.agg #[.string L, .string M, .string F, .slice A n c, .int .i64 keep], .int .i64 0, .int .i64 to_, .string ⟨#[]⟩, .slice (some ⟨w.heap.size + 1, 0, none⟩) 0 0] W
      (New w ((svOf L M F l keep).heads.map ba)) := by
  have hsel : to_ = (svOf L M F l keep).sel 1 := by
    rw [oneOr_sel L M F l keep] at hto
    exact_mod_cast hto
  have hsl : to_ ≤ L.size := by rw [hsel, ← hF, ← len_L F]; exact sel_le (svOf L M F l keep) 1
  have hb : Below w.heap.size w W := Below.heap (((Below.refl w.heap.size w).alloc (Nat.le_refl _) _).alloc (by simp) _) hW h2 h3 h4
  have hsz : W.heap.size = w.heap.size + 2 := by rw [hW]; simp
  have ho : Own W (w.heap.size + 1) (.slice (some ⟨w.heap.size + 1, 0, none⟩) 0 0) [] := (Own.emptyAt (w.alloc (Obj.cells #[.string L, .string M, .string F, .slice A n c, .int .i64 keep] 92)) _ _ (by simp) (Nat.le_refl _)).heap hW
  have hcnt := T.cnt_root (svOf L M F l keep) (by show M.toList.length = L.toList.length; rw [len_L, len_L, hLM])
  rw [← hsel] at hcnt
  have hll : (svOf L M F l keep).letters.length = L.size := len_L L
  refine (addS L M F A n c l keep B hLM hF hL hn hfit L.size 0 to_ ⟨#[]⟩ W (w.heap.size + 1) _ [] (by omega) (by omega) (by omega) (hr.below hb hB) (by omega) (by omega) ho (by simp only [List.length_nil]; omega)).mono ?_
  rintro e w' ⟨v', rfl, ho', hg⟩
  refine ⟨v', rfl, ?_, ?_⟩
  · have e2 : (⟨#[]⟩ : ByteArray).toList = [] := by rw [ByteArray.toList_eq]
    rw [List.nil_append, e2, hsel] at ho'
    exact ho'.base (by omega)
  · exact hb.trans ((hg.below ho (by omega)).mono (by omega))

set_option maxHeartbeats 1000000 in
theorem headsS (L M F : ByteArray) (A : Option Addr) (n c : Nat) (l : List ByteArray) (keep : Nat) (B : Nat) (w : World) (hLM : M.size = L.size) (hF : F.size = L.size) (hL : L.size ≤ 400) (hn : n ≤ 1000) (hfit : ∀ i (h : i < l.length), l[i].size ≤ 1000000000000)
    (hr : Strs w B A n l) (hB : B ≤ w.heap.size) :
    Calls Tryz.prog 121 #[.agg #[.string L, .string M, .string F, .slice A n c, .int .i64 keep]] w (New w ((svOf L M F l keep).heads.map ba)) := by
  obtain ⟨t, ht⟩ : ∃ t : Nat, (t : Int) = oneOr F 1 := ⟨(svOf L M F l keep).sel 1, (oneOr_sel L M F l keep 1).symm⟩
  have HAD := Lib.hid (fun W h1 h2 h3 h4 => heads_add L M F A n c l keep B w hLM hF hL hn hfit hr hB W h1 h2 h3 h4 t ht)
  have HON := Lib.hid (show ∀ W : World, Calls Tryz.prog 124 #[.string F, .int .i64 1] W fun e w' => e = .returned (.int .i64 t) ∧ W = w' from fun W => by
    have hh := oneS F 1 W (by unfold maxLen; omega) (by omega) (by omega)
    have e1 : (1 : Int).toNat = 1 := rfl
    rw [e1, ← ht] at hh; exact hh)
  clear ht hfit hr
  go_enter Tryz.func121, Tryz.ntmps121
  go_wp2
  go_region_with (first
    | (go_at_call 124; refine (HON.out _).mono ?_; rintro e w2 ⟨rfl, rfl⟩)
    | (go_at_call 161; refine Calls.mono (HAD.out _ (by rfl) (by rfl) (by rfl) (by rfl)) ?_; rintro e w2 ⟨v2, rfl, ho2, hb2⟩))
  all_goals
    go_wp2
    go_ret
    exact ⟨_, rfl, ho2, hb2⟩

end Go.Proofs.YtfhpkcamigkmdaaGreatDoor.W

namespace Go.Proofs.YtfhpkcamigkmdaaGreatDoor.W
open Go.RowKit K

/-- all blocks but some are as they were -/
structure Agree (w w' : World) (X : Nat → Prop) : Prop where
  size : w.heap.size ≤ w'.heap.size
  block : ∀ k, k < w.heap.size → ¬ X k → w'.heap[k]? = w.heap[k]?
theorem Agree.refl (w : World) (X : Nat → Prop) : Agree w w X := ⟨Nat.le_refl _, fun _ _ _ => rfl⟩
theorem Agree.trans {a b c : World} {X : Nat → Prop} (h : Agree a b X) (k : Agree b c X) : Agree a c X :=
  ⟨Nat.le_trans h.size k.size, fun i hi hx => (k.block i (Nat.lt_of_lt_of_le hi h.size) hx).trans (h.block i hi hx)⟩
theorem Agree.more {a b : World} {X Y : Nat → Prop} (h : Agree a b X) (hXY : ∀ k, k < a.heap.size → X k → Y k) : Agree a b Y := ⟨h.size, fun k hk hy => h.block k hk fun hx => hy (hXY k hk hx)⟩
theorem Agree.alloc {a b : World} {X : Nat → Prop} (h : Agree a b X) (o : Obj) : Agree a (b.alloc o) X := h.trans ⟨by simp, fun k hk _ => Below.heap_alloc _ _ _ hk⟩
theorem Agree.drewN {a b : World} {X : Nat → Prop} (h : Agree a b X) (n : Nat) : Agree a (b.drewN n) X := ⟨h.size, h.block⟩
theorem Agree.setCell {a b : World} {X : Nat → Prop} (h : Agree a b X) {p : Addr} (hp : X p.block) (u : Value) : Agree a (b.setCell p u) X :=
  h.trans ⟨by simp, fun k _ hx => Below.heap_setCell _ _ _ _ (fun e => hx (e ▸ hp))⟩
theorem Agree.of_below {w w' : World} (h : Below w.heap.size w w') (X : Nat → Prop) : Agree w w' X := ⟨h.size, fun k hk _ => h.block k hk⟩
theorem Agree.of_grown {w w' : World} {v : Value} (h : w.grownBy w' v.ownBlock) : Agree w w' (fun k => v.ownBlock = some k) := ⟨h.size, fun k hk hx => h.block k hk fun e => hx e.symm⟩
theorem Agree.cell {w w' : World} {X : Nat → Prop} (h : Agree w w' X) {p : Addr} (hp : p.block < w.heap.size) (hx : ¬ X p.block) : w'.cell? p = w.cell? p := World.cell?_of_block (w := w) (h.block p.block hp hx)

theorem Own.agree {w w' : World} {base : Nat} {v : Value} {l : List ByteArray} {X : Nat → Prop} (h : Own w base v l) (ha : Agree w w' X) (hx : ∀ k, v.ownBlock = some k → ¬ X k) : Own w' base v l := by
  refine ⟨h.1, ?_⟩
  rcases h.2 with hn | ⟨g, cap, cur, hv, hbg, hg, rest⟩
  · exact .inl hn
  · refine .inr ⟨g, cap, cur, hv, hbg, ?_, rest⟩
    rw [ha.block g (Array.getElem?_eq_some_iff.1 hg).1 (hx g (by rw [hv]; rfl))]
    exact hg
theorem Own.lt {w : World} {base : Nat} {v : Value} {l : List ByteArray} (h : Own w base v l) {k : Nat} (hk : v.ownBlock = some k) : base ≤ k ∧ k < w.heap.size := World.ownsRow.lt h k hk
/-- appending to v, memory agrees but for v's row -/
theorem Grew.agree {w w' : World} {v v' : Value} (h : Grew w w' v v') : Agree w w' (fun k => v.ownBlock = some k) := Agree.of_grown h.grown
theorem Grew.setCell {a b : World} {v v' : Value} (h : Grew a b v v') {p : Addr} (hp : a.heap.size ≤ p.block) (u : Value) : Grew a (b.setCell p u) v v' :=
  ⟨⟨h.grown.os, h.grown.tape, h.grown.output, by have := h.grown.size; simpa using this, fun k hk hne => (Below.heap_setCell _ _ _ _ (by omega)).trans (h.grown.block k hk hne)⟩, h.row⟩
/-- other memory of the call's own has grown -/
theorem Grew.other {a b c : World} {v v' : Value} (h : Grew a b v v') (ho : c.os = b.os) (ht : c.tape = b.tape) (hp : c.output = b.output) {X : Nat → Prop} (hg : Agree b c X) (hX : ∀ k, X k → a.heap.size ≤ k) : Grew a c v v' :=
  ⟨⟨ho.trans h.grown.os, ht.trans h.grown.tape, hp.trans h.grown.output, Nat.le_trans h.grown.size hg.size, fun k hk hne => (hg.block k (Nat.lt_of_lt_of_le hk h.grown.size) (fun hx => by have := hX k hx; omega)).trans (h.grown.block k hk hne)⟩, h.row⟩

/-- a slice of n strings reads as l, in a block that is none of some -/
structure Far (w : World) (X : Nat → Prop) (A : Option Addr) (n : Nat) (l : List ByteArray) : Prop where
  len : l.length = n
  cell : ∀ i (h : i < l.length), ∃ b off : Nat, A = some ⟨b, off, none⟩ ∧ b < w.heap.size ∧ ¬ X b ∧ w.cell? ⟨b, off + i, none⟩ = some (.string l[i])
theorem Far.strs {w : World} {X : Nat → Prop} {A : Option Addr} {n : Nat} {l : List ByteArray} (h : Far w X A n l) : Strs w w.heap.size A n l :=
  ⟨h.len, fun i hi => by
    obtain ⟨b, off, hA, hb, _, hc⟩ := h.cell i hi
    exact ⟨b, off, hA, hb, hc⟩⟩
theorem Far.of_strs {w : World} {X : Nat → Prop} {B : Nat} {A : Option Addr} {n : Nat} {l : List ByteArray} (h : Strs w B A n l) (hB : B ≤ w.heap.size) (hX : ∀ k, k < B → ¬ X k) : Far w X A n l :=
  ⟨h.len, fun i hi => by
    obtain ⟨b, off, hA, hb, hc⟩ := h.cell i hi
    exact ⟨b, off, hA, by omega, hX b hb, hc⟩⟩
theorem Far.step {w w' : World} {X X' Y : Nat → Prop} {A : Option Addr} {n : Nat} {l : List ByteArray} (h : Far w X A n l) (ha : Agree w w' Y) (hY : ∀ k, k < w.heap.size → Y k → X k) (hX : ∀ k, k < w.heap.size → X' k → X k) : Far w' X' A n l :=
  ⟨h.len, fun i hi => by
    obtain ⟨b, off, hA, hb, hne, hc⟩ := h.cell i hi
    refine ⟨b, off, hA, Nat.lt_of_lt_of_le hb ha.size, fun e => hne (hX b hb e), ?_⟩
    rw [ha.cell (p := ⟨b, off + i, none⟩) hb (fun e => hne (hY b hb e))]; exact hc⟩
theorem Far.drop {w : World} {X : Nat → Prop} {A : Option Addr} {n c : Nat} {l : List ByteArray} (h : Far w X A n l) (hc : n ≤ c) {k : Nat} (hk : k ≤ n) :
    Far w X (if c = k then A else A.map (·.add k)) (n - k) (l.drop k) :=
  ⟨by rw [List.length_drop, h.len], fun i hi => by
    rw [List.length_drop] at hi
    obtain ⟨b, off, hA, hb, hne, hcell⟩ := h.cell (k + i) (by omega)
    have hlen := h.len
    rw [if_neg (by omega), hA]
    refine ⟨b, off + k, ?_, hb, hne, ?_⟩
    · simp only [Option.map_some]
      unfold Addr.add
      split
      · rename_i h0; subst h0; rfl
      · rfl
    · rw [List.getElem_drop, Nat.add_assoc]; exact hcell⟩
/-- a new slice of the call's own -/
theorem Far.of_own {w : World} {base : Nat} {X : Nat → Prop} {x : Value} {A : Option Addr} {n c : Nat} {l : List ByteArray} (h : Own w base x l) (hx : x = .slice A n c) (hv : ∀ k, x.ownBlock = some k → ¬ X k) : Far w X A n l := by
  subst hx
  rcases h.2 with ⟨e, h0⟩ | ⟨g, cap, cur, e, hb, hg, hc, hm, hs, ht⟩
  · injection e with e1 e2 e3
    have : l = [] := List.eq_nil_of_length_eq_zero h0
    subst this
    exact ⟨by rw [e2]; rfl, fun i hi => absurd hi (by simp)⟩
  · injection e with e1 e2 e3
    subst e1 e2 e3
    refine ⟨rfl, fun i hi => ⟨g, 0, rfl, (Array.getElem?_eq_some_iff.1 hg).1, hv g rfl, ?_⟩⟩
    have := h.cells (g := g) rfl i (.string l[i]) (by rw [List.getElem?_map, List.getElem?_eq_getElem hi]; rfl)
    have hadd : (⟨g, 0, none⟩ : Addr).add i = ⟨g, 0 + i, none⟩ := by unfold Addr.add; split <;> simp_all
    rw [hadd] at this
    exact this

/-- the cells of forks: each a slice and how many letters lead there -/
def cellsF (es : List (Value × Nat)) : List Value := es.flatMap fun e => [e.1, .int .i64 e.2]
theorem cellsF_len (es : List (Value × Nat)) : (cellsF es).length = es.length * 2 := by
  induction es with
  | nil => rfl
  | cons e t ih => unfold cellsF at *; rw [List.flatMap_cons, List.length_append, ih]; simp; omega
theorem cellsF_append (a b : List (Value × Nat)) : cellsF (a ++ b) = cellsF a ++ cellsF b := by unfold cellsF; rw [List.flatMap_append]
theorem cellsF_get : ∀ (es : List (Value × Nat)) (i : Nat) (h : i < es.length), (cellsF es)[2 * i]? = some es[i].1 ∧ (cellsF es)[2 * i + 1]? = some (.int .i64 es[i].2)
  | e :: t, 0, _ => ⟨rfl, rfl⟩
  | e :: t, i + 1, h => by
    have := cellsF_get t i (by simpa using h)
    have e1 : cellsF (e :: t) = e.1 :: .int .i64 e.2 :: cellsF t := rfl
    rw [e1, show 2 * (i + 1) = 2 * i + 1 + 1 by omega]
    simpa using this
/-- a slice of forks of the call's own -/
def OwnF (w : World) (base : Nat) (v : Value) (es : List (Value × Nat)) : Prop := w.ownsRow base 155 2 v es.length (cellsF es)
theorem OwnF.lt {w : World} {base : Nat} {v : Value} {es : List (Value × Nat)} (h : OwnF w base v es) {k : Nat} (hk : v.ownBlock = some k) : base ≤ k ∧ k < w.heap.size := World.ownsRow.lt h k hk
theorem OwnF.agree {w w' : World} {base : Nat} {v : Value} {es : List (Value × Nat)} {X : Nat → Prop} (h : OwnF w base v es) (ha : Agree w w' X) (hx : ∀ k, v.ownBlock = some k → ¬ X k) : OwnF w' base v es := by
  refine ⟨h.1, ?_⟩
  rcases h.2 with hn | ⟨g, cap, cur, hv, hbg, hg, rest⟩
  · exact .inl hn
  · refine .inr ⟨g, cap, cur, hv, hbg, ?_, rest⟩
    rw [ha.block g (Array.getElem?_eq_some_iff.1 hg).1 (hx g (by rw [hv]; rfl))]
    exact hg
theorem OwnF.emptyAt (w : World) (base g : Nat) (hg : g = w.heap.size) (hb : base ≤ g) : OwnF (w.alloc (.cells #[] 155)) base (.slice (some ⟨g, 0, none⟩) 0 0) [] := by
  subst hg
  exact World.ownsRow_made w #[] 0 hb (by unfold maxLen; omega) rfl
theorem OwnF.parts {w : World} {base : Nat} {v : Value} {es : List (Value × Nat)} (h : OwnF w base v es) : ∃ (A : Option Addr) (c : Nat), v = .slice A es.length c ∧ es.length ≤ c ∧ c ≤ maxLen := by
  rcases h.2 with ⟨rfl, h0⟩ | ⟨g, cap, cur, rfl, hb, hg, hc, hm, hs, ht⟩
  · rw [h0]; exact ⟨none, 0, rfl, Nat.le_refl _, by unfold maxLen; omega⟩
  · exact ⟨_, cap, rfl, hc, hm⟩

/-- a slice of forks that can be read, in a block that is none of some -/
structure FS (w : World) (X : Nat → Prop) (A : Option Addr) (n : Nat) (es : List (Value × Nat)) : Prop where
  len : es.length = n
  cell : ∀ i (h : i < es.length), ∃ b off : Nat, A = some ⟨b, off, none⟩ ∧ b < w.heap.size ∧ ¬ X b ∧ w.cell? ⟨b, off + 2 * i, none⟩ = some es[i].1 ∧ w.cell? ⟨b, off + 2 * i + 1, none⟩ = some (.int .i64 es[i].2)
theorem FS.step {w w' : World} {X X' Y : Nat → Prop} {A : Option Addr} {n : Nat} {es : List (Value × Nat)} (h : FS w X A n es) (ha : Agree w w' Y) (hY : ∀ k, k < w.heap.size → Y k → X k) (hX : ∀ k, k < w.heap.size → X' k → X k) : FS w' X' A n es :=
  ⟨h.len, fun i hi => by
    obtain ⟨b, off, hA, hb, hne, hc1, hc2⟩ := h.cell i hi
    refine ⟨b, off, hA, Nat.lt_of_lt_of_le hb ha.size, fun e => hne (hX b hb e), ?_, ?_⟩
    · rw [ha.cell (p := ⟨b, off + 2 * i, none⟩) hb (fun e => hne (hY b hb e))]; exact hc1
    · rw [ha.cell (p := ⟨b, off + 2 * i + 1, none⟩) hb (fun e => hne (hY b hb e))]; exact hc2⟩
theorem FS.of_own {w : World} {base : Nat} {X : Nat → Prop} {x : Value} {A : Option Addr} {n c : Nat} {es : List (Value × Nat)} (h : OwnF w base x es) (hx : x = .slice A n c) (hv : ∀ k, x.ownBlock = some k → ¬ X k) : FS w X A n es := by
  subst hx
  rcases h.2 with ⟨e, h0⟩ | ⟨g, cap, cur, e, hb, hg, hc, hm, hs, ht⟩
  · injection e with e1 e2 e3
    have : es = [] := List.eq_nil_of_length_eq_zero h0
    subst this
    exact ⟨by rw [e2]; rfl, fun i hi => absurd hi (by simp)⟩
  · injection e with e1 e2 e3
    subst e1 e2 e3
    refine ⟨rfl, fun i hi => ⟨g, 0, rfl, (Array.getElem?_eq_some_iff.1 hg).1, hv g rfl, ?_, ?_⟩⟩
    · have := h.cells (g := g) rfl (2 * i) _ (cellsF_get es i hi).1
      have hadd : (⟨g, 0, none⟩ : Addr).add (2 * i) = ⟨g, 0 + 2 * i, none⟩ := by unfold Addr.add; split <;> simp_all
      rw [hadd] at this
      exact this
    · have := h.cells (g := g) rfl (2 * i + 1) _ (cellsF_get es i hi).2
      have hadd : (⟨g, 0, none⟩ : Addr).add (2 * i + 1) = ⟨g, 0 + 2 * i + 1, none⟩ := by unfold Addr.add; split <;> simp_all
      rw [hadd] at this
      exact this

/-- what each of some forks holds -/
def Held (w : World) (X : Nat → Prop) (es : List (Value × Nat)) (q : List (List ByteArray × Nat)) : Prop :=
  es.length = q.length ∧ ∀ i (h1 : i < es.length) (h2 : i < q.length), es[i].2 = q[i].2 ∧ ∃ A n c, es[i].1 = .slice A n c ∧ Far w X A n q[i].1 ∧ n ≤ c ∧ c ≤ maxLen
theorem Held.nil (w : World) (X : Nat → Prop) : Held w X [] [] := ⟨rfl, fun i h => absurd h (by simp)⟩
theorem Held.step {w w' : World} {X X' : Nat → Prop} {es : List (Value × Nat)} {q : List (List ByteArray × Nat)} (h : Held w X es q) (hf : ∀ A n l, Far w X A n l → Far w' X' A n l) : Held w' X' es q :=
  ⟨h.1, fun i h1 h2 => by
    obtain ⟨e, A, n, c, hv, hfar, hc⟩ := h.2 i h1 h2
    exact ⟨e, A, n, c, hv, hf _ _ _ hfar, hc⟩⟩
theorem Held.snoc {w : World} {X : Nat → Prop} {es : List (Value × Nat)} {q : List (List ByteArray × Nat)} (h : Held w X es q) {A : Option Addr} {n c d : Nat} {l : List ByteArray} (hf : Far w X A n l) (h1 : n ≤ c) (h2 : c ≤ maxLen) : Held w X (es ++ [(.slice A n c, d)]) (q ++ [(l, d)]) := by
  refine ⟨by rw [List.length_append, List.length_append, h.1]; rfl, fun i hi1 hi2 => ?_⟩
  have hl := h.1
  by_cases hlt : i < es.length
  · rw [List.getElem_append_left hlt, List.getElem_append_left (by omega)]
    exact h.2 i hlt (by omega)
  · rw [List.length_append, List.length_singleton] at hi1
    have hie : i = es.length := by omega
    subst hie
    rw [List.getElem_append_right (Nat.le_refl _), List.getElem_append_right (by omega)]
    simp only [Nat.sub_self, hl, List.getElem_cons_zero]
    exact ⟨trivial, A, n, c, rfl, hf, h1, h2⟩
theorem Held.append {w : World} {X : Nat → Prop} {es es2 : List (Value × Nat)} {q q2 : List (List ByteArray × Nat)} (h : Held w X es q) (k : Held w X es2 q2) : Held w X (es ++ es2) (q ++ q2) := by
  refine ⟨by rw [List.length_append, List.length_append, h.1, k.1], fun i hi1 hi2 => ?_⟩
  have hl := h.1
  by_cases hlt : i < es.length
  · rw [List.getElem_append_left hlt, List.getElem_append_left (by omega)]
    exact h.2 i hlt (by omega)
  · rw [List.length_append] at hi1
    rw [List.length_append] at hi2
    rw [List.getElem_append_right (by omega), List.getElem_append_right (by omega)]
    simp only [hl]
    exact k.2 (i - q.length) (by omega) (by omega)
theorem Held.tail {w : World} {X : Nat → Prop} {e : Value × Nat} {es : List (Value × Nat)} {x : List ByteArray × Nat} {q : List (List ByteArray × Nat)} (h : Held w X (e :: es) (x :: q)) : Held w X es q :=
  ⟨by simpa using h.1, fun i h1 h2 => h.2 (i + 1) (by simpa using h1) (by simpa using h2)⟩
theorem Held.head {w : World} {X : Nat → Prop} {e : Value × Nat} {es : List (Value × Nat)} {x : List ByteArray × Nat} {q : List (List ByteArray × Nat)} (h : Held w X (e :: es) (x :: q)) :
    e.2 = x.2 ∧ ∃ A n c, e.1 = .slice A n c ∧ Far w X A n x.1 ∧ n ≤ c ∧ c ≤ maxLen := h.2 0 (by simp) (by simp)
/-- forks as lists of letters -/
def fk (q : List (List ByteArray × Nat)) : List T.Fork := q.map fun p => ⟨ls p.1, p.2⟩

theorem fork_info : (Tryz.prog.info? 155).map (fun i => (i.zero, i.size, i.bytes)) = some (some (.agg #[.slice none 0 0, .int .i64 0]), 2, 32) := by kernel_rfl

/-- append of one fork -/
theorem app_fork {ops : Array Oper} {rest : List Oper} {o : Oper} {a : Act} {Q : Exit → Act → World → Prop} (hgd : o.guard = none) (s x : Operand)
    (ho : o.op = .call { callee := .builtin .append, args := #[s, x], argTypes := #[156, 156] })
    (w : World) (base : Nat) (v : Value) (es : List (Value × Nat)) (hs : a.eval s = v) (hown : OwnF w base v es) (b cc : Nat) (A : Option Addr) (n c d : Nat)
    (hx : a.eval x = .slice (some ⟨b, 0, none⟩) 1 cc) (hcell : w.heap[b]? = some (.cells #[.slice A n c, .int .i64 d] 155 (0, 0))) (hl : es.length ≤ 1000000) (hbase : base ≤ w.heap.size)
    (h : ∀ g cap w', OwnF w' base (.slice (some ⟨g, 0, none⟩) (es.length + 1) cap) (es ++ [(.slice A n c, d)]) → Grew w w' v (.slice (some ⟨g, 0, none⟩) (es.length + 1) cap) →
      wpList Tryz.prog ops Q rest (a.put o.dst (.slice (some ⟨g, 0, none⟩) (es.length + 1) cap)) w') : wpList Tryz.prog ops Q (o :: rest) a w := by
  obtain ⟨i0, hi, hz0, hz1, hz2⟩ := info_parts fork_info
  refine wpList_append_lies w hgd s x _ ho base _ i0 (.agg #[.slice none 0 0, .int .i64 0]) 2 32 Tryz.underlying156 hi hz0 hz1 hz2 rfl (by decide) v es.length (cellsF es) hs hown ⟨b, 0, none⟩ 1 cc [.slice A n c, .int .i64 d] hx rfl ?_ ?_ (by decide) ?_ ?_ hbase _ rfl ?_
  · intro j u hj
    match j, hj with
    | 0, hj => simp at hj; subst hj; show w.cell? ⟨b, 0, none⟩ = _; rw [cell_of_row _ _ _ _ _ _ hcell]; rfl
    | 1, hj => simp at hj; subst hj; show w.cell? ⟨b, 1, none⟩ = _; rw [cell_of_row _ _ _ _ _ _ hcell]; rfl
  · intro u hu
    simp at hu
    rcases hu with rfl | rfl <;> rfl
  · unfold maxLen; omega
  · omega
  · intro g cap w' h2 h3 h4 _
    refine h g cap w' ?_ ⟨h3, fun j hj => ?_⟩
    · unfold OwnF
      rw [List.length_append, cellsF_append]
      exact h2
    · have e : g = j := by simpa [Value.ownBlock] using hj
      subst e
      rcases h4 with h4 | h4
      · exact .inr h4
      · exact .inl (by omega)

end Go.Proofs.YtfhpkcamigkmdaaGreatDoor.W

namespace Go.Proofs.YtfhpkcamigkmdaaGreatDoor.W
open Go.RowKit K

/-- the string of a single letter -/
def fst1 (n : Nat) : ByteArray := if n = 0 then ⟨#[49]⟩ else ⟨#[48]⟩
/-- blocks in which no slice lies that is read: the two rows that grow, and the boxes -/
def XP (w : World) (v' next : Value) : Nat → Prop := fun k => v'.ownBlock = some k ∨ next.ownBlock = some k ∨ (w.heap.size ≤ k ∧ k < w.heap.size + 3)
/-- .. and in which no group lies: all that was there -/
def XH (w : World) (v' next : Value) : Nat → Prop := fun k => XP w v' next k ∨ k < w.heap.size
/-- at the loop's head: these branches are done, and the keys from place m on are left -/
structure PutP (w : World) (base : Nat) (v : Value) (L M F : ByteArray) (R l : List ByteArray) (keep d : Nat) (next first : Value) (wr : World)
    (done : List T.Br) (m : Nat) (L' M' F' : ByteArray) (v' : Value) (R' : List ByteArray) (A' : Option Addr) (n' c' : Nat) (es : List (Value × Nat)) (qn : List (List ByteArray × Nat)) : Prop where
  half : T.Half d (ls l) done (ls (l.drop m))
  hm : m ≤ l.length
  sv : svOf L' M' F' R' keep = (svOf L M F R keep).lay d done
  fst : first = .string (fst1 done.length)
  boxS : wr.heap[w.heap.size]? = some (.cells #[.string L', .string M', .string F', v', .int .i64 keep] 92 (0, 0))
  boxF : wr.heap[w.heap.size + 1]? = some (.cells #[.slice A' n' c', .int .i64 d] 155 (0, 0))
  boxR : wr.heap[w.heap.size + 2]? = some (.cells #[.string ⟨#[]⟩, .string ⟨#[]⟩, .string ⟨#[]⟩, .slice none 0 0, .int .i64 0] 92 (0, 0))
  own : Own wr base v' R'
  far : Far wr (XP w v' next) A' n' (l.drop m)
  cap : n' ≤ c' ∧ c' ≤ maxLen
  ownF : OwnF wr (w.heap.size + 3) next es
  held : Held wr (XH w v' next) es qn
  fks : fk qn = T.leads d done
  apart : ∀ g, next.ownBlock = some g → v'.ownBlock ≠ some g
  row : ∀ j, v'.ownBlock = some j → j < w.heap.size ∨ w.heap.size + 3 ≤ j
  grew : Grew w wr v v'

/-- what l3Put answers -/
def PutR3 (w : World) (base : Nat) (v : Value) (L M F : ByteArray) (R l : List ByteArray) (keep d : Nat) (e : Ending) (w' : World) : Prop :=
  ∃ L' M' F' v' R' vn es qn, e = .returned (.tuple #[.agg #[.string L', .string M', .string F', v', .int .i64 keep], vn]) ∧ svOf L' M' F' R' keep = (svOf L M F R keep).lay d (T.brs d (ls l)) ∧ Own w' base v' R' ∧
    OwnF w' w.heap.size vn es ∧ Held w' (fun k => v'.ownBlock = some k ∨ vn.ownBlock = some k ∨ k < w.heap.size) es qn ∧ fk qn = T.leads d (T.brs d (ls l)) ∧ (∀ g, vn.ownBlock = some g → v'.ownBlock ≠ some g) ∧ Grew w w' v v'

theorem grp_head (k : ByteArray) (t : List ByteArray) (d : Nat) : ∃ r, grpS (k :: t) d = k :: r ∧ r.length ≤ t.length := by
  unfold grpS
  refine ⟨t.filter fun x => (letS x d).toList == (letS k d).toList, ?_, List.length_filter_le _ _⟩
  simp

theorem fst1_l (n : Nat) : (fst1 n).toList = [if n = 0 then 49 else 48] := by
  unfold fst1; split <;> rw [ByteArray.toList_eq]
theorem fst1_size (n : Nat) : (fst1 n).size = 1 := by unfold fst1; split <;> rfl
theorem letS_size (k : ByteArray) (d : Nat) : (letS k d).size = 1 := by
  have := congrArg List.length (letS_l k d)
  rw [len_L] at this
  exact this
theorem ba49 : (⟨#[49]⟩ : ByteArray).toList = [49] := by rw [ByteArray.toList_eq]
theorem ba48 : (⟨#[48]⟩ : ByteArray).toList = [48] := by rw [ByteArray.toList_eq]
theorem app_l (a b : ByteArray) : (a ++ b).toList = a.toList ++ b.toList := by simp only [ByteArray.toList_eq, ByteArray.data_append, Array.toList_append]
theorem grp_goes {k0 : ByteArray} {t0 r0 : List ByteArray} {d : Nat} (hgr : grpS (k0 :: t0) d = k0 :: r0) : T.group k0.toList (ls t0) d = ls (k0 :: r0) := by rw [← grpS_l, hgr]
theorem lay_goes {L M F L' M' F' : ByteArray} {R R' : List ByteArray} {keep d : Nat} {done : List T.Br} {k0 : ByteArray} {t0 r0 : List ByteArray} (hsv : svOf L' M' F' R' keep = (svOf L M F R keep).lay d done) (hgr : grpS (k0 :: t0) d = k0 :: r0) (hgo : 1 < r0.length + 1) :
    svOf (L' ++ letS k0 d) (M' ++ ⟨#[49]⟩) (F' ++ fst1 done.length) R' keep = (svOf L M F R keep).lay d (done ++ [(T.letter k0.toList d, T.group k0.toList (ls t0) d)]) := by
  have hg : T.goes (T.letter k0.toList d, T.group k0.toList (ls t0) d) = true := by
    unfold T.goes; rw [grp_goes hgr]; simp [ls]; omega
  rw [T.lay_snoc, ← hsv, hg, if_pos rfl, List.append_nil]
  unfold svOf
  simp only [app_l, letS_l, fst1_l, ba49]
  rfl
theorem lay_leaf {L M F L' M' F' : ByteArray} {R R' : List ByteArray} {keep d : Nat} {done : List T.Br} {k0 : ByteArray} {t0 r0 : List ByteArray} (hsv : svOf L' M' F' R' keep = (svOf L M F R keep).lay d done) (hgr : grpS (k0 :: t0) d = k0 :: r0) (hgo : ¬ 1 < r0.length + 1) :
    svOf (L' ++ letS k0 d) (M' ++ ⟨#[48]⟩) (F' ++ fst1 done.length) (R' ++ [restS k0 (d + 1) keep]) keep = (svOf L M F R keep).lay d (done ++ [(T.letter k0.toList d, T.group k0.toList (ls t0) d)]) := by
  have hr0 : r0 = [] := List.eq_nil_of_length_eq_zero (by omega)
  subst hr0
  have hg : T.goes (T.letter k0.toList d, T.group k0.toList (ls t0) d) = false := by
    unfold T.goes; rw [grp_goes hgr]; simp [ls]
  rw [T.lay_snoc, ← hsv, hg, if_neg (show ¬ (false = true) by simp)]
  unfold svOf
  simp only [app_l, letS_l, fst1_l, ba48, List.map_append, List.map_cons, List.map_nil, restS_l]
  have e : T.restB d keep (T.letter k0.toList d, T.group k0.toList (ls t0) d) = T.restOf k0.toList (d + 1) keep := by
    unfold T.restB; rw [grp_goes hgr]; rfl
  rw [e]
  rfl
theorem leads_goes {d : Nat} {done : List T.Br} {qn : List (List ByteArray × Nat)} {k0 : ByteArray} {t0 r0 : List ByteArray} (hq : fk qn = T.leads d done) (hgr : grpS (k0 :: t0) d = k0 :: r0) (hgo : 1 < r0.length + 1) :
    fk (qn ++ [(k0 :: r0, d + 1)]) = T.leads d (done ++ [(T.letter k0.toList d, T.group k0.toList (ls t0) d)]) := by
  have hg : T.goes (T.letter k0.toList d, T.group k0.toList (ls t0) d) = true := by
    unfold T.goes; rw [grp_goes hgr]; simp [ls]; omega
  rw [T.leads_snoc, hg, if_pos rfl, ← hq, grp_goes hgr]
  unfold fk
  rw [List.map_append]
  rfl
theorem leads_leaf {d : Nat} {done : List T.Br} {qn : List (List ByteArray × Nat)} {k0 : ByteArray} {t0 r0 : List ByteArray} (hq : fk qn = T.leads d done) (hgr : grpS (k0 :: t0) d = k0 :: r0) (hgo : ¬ 1 < r0.length + 1) :
    fk qn = T.leads d (done ++ [(T.letter k0.toList d, T.group k0.toList (ls t0) d)]) := by
  have hg : T.goes (T.letter k0.toList d, T.group k0.toList (ls t0) d) = false := by
    unfold T.goes; rw [grp_goes hgr]; exact decide_eq_false (by simp only [ls, List.length_map, List.length_cons]; exact hgo)
  rw [T.leads_snoc, hg, if_neg (show ¬ (false = true) by simp), List.append_nil, hq]
theorem half_step {d m : Nat} {l : List ByteArray} {done : List T.Br} {k0 : ByteArray} {t0 r0 : List ByteArray} (h : T.Half d (ls l) done (ls (l.drop m))) (hkt : l.drop m = k0 :: t0) (hgr : grpS (k0 :: t0) d = k0 :: r0) :
    T.Half d (ls l) (done ++ [(T.letter k0.toList d, T.group k0.toList (ls t0) d)]) (ls (l.drop (m + (r0.length + 1)))) := by
  have e1 : ls (l.drop m) = k0.toList :: ls t0 := by rw [hkt]; rfl
  rw [e1] at h
  have h2 := T.half_next h
  have e2 : (T.group k0.toList (ls t0) d).length = r0.length + 1 := by rw [grp_goes hgr]; simp [ls]
  rw [e2] at h2
  have e3 : ls (l.drop (m + (r0.length + 1))) = (k0.toList :: ls t0).drop (r0.length + 1) := by
    rw [← e1, ← List.drop_drop]
    unfold ls
    rw [List.map_drop]
  rw [e3]
  exact h2
/-- the lengths, of the branches done -/
theorem sv_len {L M F L' M' F' : ByteArray} {R R' : List ByteArray} {keep d : Nat} {done : List T.Br} (hsv : svOf L' M' F' R' keep = (svOf L M F R keep).lay d done) :
    L'.size = L.size + done.length ∧ M'.size = M.size + done.length ∧ F'.size = F.size + done.length ∧ R'.length ≤ R.length + done.length := by
  have h1 := congrArg (fun s => s.letters.length) hsv
  have h2 := congrArg (fun s => s.more.length) hsv
  have h3 := congrArg (fun s => s.first.length) hsv
  have h4 := congrArg (fun s => s.rests.length) hsv
  simp only [svOf, T.Sv.lay, List.length_append, List.length_map, len_L, T.firstN_len] at h1 h2 h3 h4
  have h5 := List.length_filter_le (fun b => !T.goes b) done
  exact ⟨h1, h2, h3, by omega⟩

/-- stores into a filter's box -/
theorem box_set {w2 : World} {sb : Nat} {L M F : ByteArray} {v : Value} {k : Nat} (hb : w2.heap[sb]? = some (.cells #[.string L, .string M, .string F, v, .int .i64 k] 92 (0, 0))) (n : Nat) (L2 M2 F2 : ByteArray) (W : World)
    (hW : W = (((w2.drewN n).setCell ⟨sb, 0, none⟩ (.string L2)).setCell ⟨sb, 2, none⟩ (.string F2)).setCell ⟨sb, 1, none⟩ (.string M2)) :
    W.heap[sb]? = some (.cells #[.string L2, .string M2, .string F2, v, .int .i64 k] 92 (0, 0)) ∧ Agree w2 W (fun k => k = sb) ∧ W.os = w2.os ∧ W.tape = w2.tape ∧ W.output = w2.output := by
  subst hW
  refine ⟨?_, ?_, rfl, rfl, rfl⟩
  · have h0 : (w2.drewN n).heap[sb]? = some (.cells #[.string L, .string M, .string F, v, .int .i64 k] 92 (0, 0)) := hb
    have h1 := heap_setCell_same (w2.drewN n) sb 0 _ _ (.string L2) h0
    have h2 := heap_setCell_same _ sb 2 _ _ (.string F2) h1
    have h3 := heap_setCell_same _ sb 1 _ _ (.string M2) h2
    rw [h3]
    simp
  · have a0 : Agree w2 (w2.drewN n) (fun k => k = sb) := Agree.drewN (Agree.refl _ _) n
    have a1 := Agree.setCell a0 (p := ⟨sb, 0, none⟩) (show sb = sb from rfl) (.string L2)
    have a2 := Agree.setCell a1 (p := ⟨sb, 2, none⟩) (show sb = sb from rfl) (.string F2)
    exact Agree.setCell a2 (p := ⟨sb, 1, none⟩) (show sb = sb from rfl) (.string M2)

/-- what remains of a slice behind its first k -/
def Rem (A' : Option Addr) (n' : Nat) (l : List ByteArray) (m g : Nat) (A'' : Option Addr) : Prop := ∀ (W : World) (X : Nat → Prop), Far W X A' n' (l.drop m) → Far W X A'' (n' - g) (l.drop (m + g))
theorem rem_if {A' : Option Addr} {n' c' : Nat} {l : List ByteArray} {m g : Nat} (hc : n' ≤ c') (hg : g ≤ n') : Rem A' n' l m g (if c' = g then A' else A'.map (·.add g)) := by
  intro W X h
  have := h.drop hc hg
  rw [List.drop_drop] at this
  exact this

/-- a round: the branch goes on -/
theorem put_goes {w : World} {base : Nat} {v : Value} {L M F : ByteArray} {R l : List ByteArray} {keep d : Nat} {next first : Value} {wr : World} {done : List T.Br} {m : Nat} {L' M' F' : ByteArray} {v' : Value} {R' : List ByteArray} {A' : Option Addr} {n' c' : Nat} {es : List (Value × Nat)} {qn : List (List ByteArray × Nat)}
    (P : PutP w base v L M F R l keep d next first wr done m L' M' F' v' R' A' n' c' es qn) {k0 : ByteArray} {t0 r0 : List ByteArray} (hkt : l.drop m = k0 :: t0) (hgr : grpS (k0 :: t0) d = k0 :: r0) (hgo : 1 < r0.length + 1) (hle : r0.length + 1 ≤ n')
    {w2 : World} {A2 : Option Addr} {c2 : Nat} (ho2 : Own w2 wr.heap.size (.slice A2 (r0.length + 1) c2) (k0 :: r0)) (hb2 : Below wr.heap.size wr w2) {nq : Nat} {W3 : World}
    (hW3 : W3 = (((w2.drewN nq).setCell ⟨w.heap.size, 0, none⟩ (.string (L' ++ letS k0 d))).setCell ⟨w.heap.size, 2, none⟩ (.string (F' ++ fst1 done.length))).setCell ⟨w.heap.size, 1, none⟩ (.string (M' ++ ⟨#[49]⟩)))
    {o : Obj} {next' : Value} {w3 : World} (hof : OwnF w3 (w.heap.size + 3) next' (es ++ [(.slice A2 (r0.length + 1) c2, d + 1)])) (hg3 : Grew (W3.alloc o) w3 next next') {A'' : Option Addr} (hA'' : Rem A' n' l m (r0.length + 1) A'') :
    PutP w base v L M F R l keep d next' (.string ⟨#[48]⟩) (w3.setCell ⟨w.heap.size + 1, 0, none⟩ (.slice A'' (n' - (r0.length + 1)) (c' - (r0.length + 1)))) (done ++ [(T.letter k0.toList d, T.group k0.toList (ls t0) d)]) (m + (r0.length + 1)) (L' ++ letS k0 d) (M' ++ ⟨#[49]⟩) (F' ++ fst1 done.length) v' R' A'' (n' - (r0.length + 1)) (c' - (r0.length + 1)) (es ++ [(.slice A2 (r0.length + 1) c2, d + 1)]) (qn ++ [(k0 :: r0, d + 1)]) := by
  have hbS2 : w2.heap[w.heap.size]? = some (.cells #[.string L', .string M', .string F', v', .int .i64 keep] 92 (0, 0)) := by rw [hb2.block _ (Array.getElem?_eq_some_iff.1 P.boxS).1]; exact P.boxS
  obtain ⟨hS3, hAg3, e1, e2, e3⟩ := box_set hbS2 nq _ _ _ W3 hW3
  have hszr : w.heap.size + 3 ≤ wr.heap.size := by have := (Array.getElem?_eq_some_iff.1 P.boxR).1; omega
  have hsz2 := hb2.size
  have hrowN : ∀ k, next.ownBlock = some k → w.heap.size + 3 ≤ k ∧ k < wr.heap.size := fun k hk => P.ownF.lt hk
  obtain ⟨w4, hw4⟩ : ∃ w4, w4 = w3.setCell ⟨w.heap.size + 1, 0, none⟩ (.slice A'' (n' - (r0.length + 1)) (c' - (r0.length + 1))) := ⟨_, rfl⟩
  rw [← hw4]
  have hA34 : Agree w3 w4 (fun k => k = w.heap.size + 1) := by
    rw [hw4]; exact Agree.setCell (X := fun k => k = w.heap.size + 1) (Agree.refl _ _) (p := ⟨w.heap.size + 1, 0, none⟩) (show w.heap.size + 1 = w.heap.size + 1 from rfl) _
  have hA3 : Agree W3 w3 (fun k => next.ownBlock = some k) :=
    ⟨Nat.le_trans (by simp) hg3.agree.size, fun k hk hx => (hg3.agree.block k (Nat.lt_of_lt_of_le hk (by simp)) hx).trans (Below.heap_alloc _ _ _ hk)⟩
  have hszW : w2.heap.size ≤ W3.heap.size := hAg3.size
  have hsz3 := hA3.size
  have hA24 : Agree w2 w4 (fun k => k = w.heap.size ∨ next.ownBlock = some k ∨ k = w.heap.size + 1) :=
    ((hAg3.more fun _ _ h => .inl h).trans (hA3.more fun _ _ h => .inr (.inl h))).trans (hA34.more fun _ _ h => .inr (.inr h))
  have hAg : Agree wr w4 (fun k => k = w.heap.size ∨ next.ownBlock = some k ∨ k = w.heap.size + 1) := (Agree.of_below hb2 _).trans hA24
  have hYX : ∀ k, (k = w.heap.size ∨ next.ownBlock = some k ∨ k = w.heap.size + 1) → XP w v' next k := fun k h => by
    rcases h with h | h | h
    · exact .inr (.inr ⟨by omega, by omega⟩)
    · exact .inr (.inl h)
    · exact .inr (.inr ⟨by omega, by omega⟩)
  have hvX : ∀ k, v'.ownBlock = some k → ¬ (k = w.heap.size ∨ next.ownBlock = some k ∨ k = w.heap.size + 1) := fun k hk hx => by
    rcases hx with h | h | h
    · have := P.row k hk; omega
    · exact P.apart k h hk
    · have := P.row k hk; omega
  have hnew : ∀ k, next'.ownBlock = some k → W3.heap.size + 1 ≤ k ∨ next.ownBlock = some k := fun k hk => by
    rcases hg3.row k hk with h | h
    · left; simpa using h
    · exact .inr h
  have hXX : ∀ k, k < w2.heap.size → XP w v' next' k → XP w v' next k := fun k hk h => by
    rcases h with h | h | h
    · exact .inl h
    · rcases hnew k h with h1 | h1
      · omega
      · exact .inr (.inl h1)
    · exact .inr (.inr h)
  have hXlt : ∀ k, XP w v' next k → k < wr.heap.size := fun k h => by
    rcases h with h | h | h
    · exact (P.own.lt h).2
    · exact (hrowN k h).2
    · omega
  have hn3 : ∀ k, k < w.heap.size + 3 → k < w3.heap.size := fun k hk => by omega
  have hnot3 : ∀ k, k < w.heap.size + 3 → ¬ next.ownBlock = some k := fun k hk e => by have := (hrowN k e).1; omega
  have hHH : ∀ k, k < w2.heap.size → XH w v' next' k → XH w v' next k := fun k hk h => by
    rcases h with h | h
    · exact Or.inl (hXX k hk h)
    · exact Or.inr h
  have hHlt : ∀ k, XH w v' next k → k < wr.heap.size := fun k h => by
    rcases h with h | h
    · exact hXlt k h
    · omega
  have hgrp : Far w4 (XH w v' next') A2 (r0.length + 1) (k0 :: r0) :=
    (Far.of_own (X := XH w v' next) ho2 rfl (fun k hk h => by have h1 := hHlt k h; have h2 := (ho2.lt hk).1; omega)).step hA24 (fun k _ h => Or.inl (hYX k h)) hHH
  have hp2 := ho2.parts
  refine ⟨half_step P.half hkt hgr, by have := congrArg List.length hkt; rw [List.length_drop] at this; have := P.far.len; rw [List.length_drop] at this; omega, lay_goes P.sv hgr hgo, ?_, ?_, ?_, ?_, ?_, ?_, ?_, ?_, ?_, leads_goes P.fks hgr hgo, ?_, P.row, ?_⟩
  · rw [List.length_append, List.length_singleton]; unfold fst1; rw [if_neg (by omega)]
  · rw [hA34.block _ (hn3 _ (by omega)) (by omega), hA3.block _ (by omega) (hnot3 _ (by omega))]
    exact hS3
  · rw [hw4]
    have hF3 : w3.heap[w.heap.size + 1]? = some (.cells #[.slice A' n' c', .int .i64 d] 155 (0, 0)) := by
      rw [hA3.block _ (by omega) (hnot3 _ (by omega)), hAg3.block _ (by omega) (by omega), hb2.block _ (by omega)]
      exact P.boxF
    rw [heap_setCell_same w3 (w.heap.size + 1) 0 _ _ _ hF3]
    simp
  · have hR2 : ¬ (w.heap.size + 2 = w.heap.size ∨ next.ownBlock = some (w.heap.size + 2) ∨ w.heap.size + 2 = w.heap.size + 1) := fun h => by
      rcases h with h | h | h
      · omega
      · exact hnot3 _ (by omega) h
      · omega
    rw [hAg.block _ (by omega) hR2]
    exact P.boxR
  · exact P.own.agree hAg hvX
  · exact hA'' _ _ (P.far.step hAg (fun k _ h => hYX k h) (fun k hk h => hXX k (by omega) h))
  · have := P.cap; exact ⟨by omega, by omega⟩
  · exact hof.agree hA34 (fun k hk h => by have := (hof.lt hk).1; omega)
  · obtain ⟨A3, c3, hv3, hc3, hm3, _⟩ := hp2
    injection hv3 with h1 h2 h3
    subst h1 h3
    exact (P.held.step fun A n l h => h.step hAg (fun k _ h => Or.inl (hYX k h)) (fun k hk h => hHH k (by omega) h)).snoc hgrp hc3 hm3
  · intro g hg hv
    rcases hnew g hg with h | h
    · have := (P.own.lt hv).2; omega
    · exact P.apart g h hv
  · refine P.grew.other ?_ ?_ ?_ hAg (fun k h => ?_)
    · rw [hw4]; exact hg3.grown.os.trans (e1.trans hb2.os)
    · rw [hw4]; exact hg3.grown.tape.trans (e2.trans hb2.tape)
    · rw [hw4]; exact hg3.grown.output.trans (e3.trans hb2.output)
    · rcases h with h | h | h
      · omega
      · have := (hrowN k h).1; omega
      · omega

/-- a round: the branch does not go on -/
theorem put_leaf {w : World} {base : Nat} {v : Value} {L M F : ByteArray} {R l : List ByteArray} {keep d : Nat} {next first : Value} {wr : World} {done : List T.Br} {m : Nat} {L' M' F' : ByteArray} {v' : Value} {R' : List ByteArray} {A' : Option Addr} {n' c' : Nat} {es : List (Value × Nat)} {qn : List (List ByteArray × Nat)}
    (P : PutP w base v L M F R l keep d next first wr done m L' M' F' v' R' A' n' c' es qn) {k0 : ByteArray} {t0 r0 : List ByteArray} (hkt : l.drop m = k0 :: t0) (hgr : grpS (k0 :: t0) d = k0 :: r0) (hgo : ¬ 1 < r0.length + 1) (hle : r0.length + 1 ≤ n')
    {w2 : World} (hb2 : Below wr.heap.size wr w2) {nq : Nat} {W3 : World}
    (hW3 : W3 = (((w2.drewN nq).setCell ⟨w.heap.size, 0, none⟩ (.string (L' ++ letS k0 d))).setCell ⟨w.heap.size, 2, none⟩ (.string (F' ++ fst1 done.length))).setCell ⟨w.heap.size, 1, none⟩ (.string (M' ++ ⟨#[48]⟩)))
    {W5 : World} (h5 : Agree W3 W5 (fun _ => False)) (o5 : W5.os = W3.os) (t5 : W5.tape = W3.tape) (p5 : W5.output = W3.output)
    {v'' : Value} {w3 : World} (hown : Own w3 base v'' (R' ++ [restS k0 (d + 1) keep])) (hg3 : Grew W5 w3 v' v'') {A'' : Option Addr} (hA'' : Rem A' n' l m (r0.length + 1) A'') :
    PutP w base v L M F R l keep d next (.string ⟨#[48]⟩) ((w3.setCell ⟨w.heap.size, 3, none⟩ v'').setCell ⟨w.heap.size + 1, 0, none⟩ (.slice A'' (n' - (r0.length + 1)) (c' - (r0.length + 1)))) (done ++ [(T.letter k0.toList d, T.group k0.toList (ls t0) d)]) (m + (r0.length + 1)) (L' ++ letS k0 d) (M' ++ ⟨#[48]⟩) (F' ++ fst1 done.length) v'' (R' ++ [restS k0 (d + 1) keep]) A'' (n' - (r0.length + 1)) (c' - (r0.length + 1)) es qn := by
  have hbS2 : w2.heap[w.heap.size]? = some (.cells #[.string L', .string M', .string F', v', .int .i64 keep] 92 (0, 0)) := by rw [hb2.block _ (Array.getElem?_eq_some_iff.1 P.boxS).1]; exact P.boxS
  obtain ⟨hS3, hAg3, e1, e2, e3⟩ := box_set hbS2 nq _ _ _ W3 hW3
  have hszr : w.heap.size + 3 ≤ wr.heap.size := by have := (Array.getElem?_eq_some_iff.1 P.boxR).1; omega
  have hsz2 := hb2.size
  have hrowN : ∀ k, next.ownBlock = some k → w.heap.size + 3 ≤ k ∧ k < wr.heap.size := fun k hk => P.ownF.lt hk
  have hvlt : ∀ k, v'.ownBlock = some k → k < wr.heap.size := fun k hk => (P.own.lt hk).2
  obtain ⟨w4, hw4⟩ : ∃ w4, w4 = (w3.setCell ⟨w.heap.size, 3, none⟩ v'').setCell ⟨w.heap.size + 1, 0, none⟩ (.slice A'' (n' - (r0.length + 1)) (c' - (r0.length + 1))) := ⟨_, rfl⟩
  rw [← hw4]
  have hA34 : Agree w3 w4 (fun k => k = w.heap.size ∨ k = w.heap.size + 1) := by
    rw [hw4]
    exact Agree.setCell (X := fun k => k = w.heap.size ∨ k = w.heap.size + 1) (Agree.setCell (X := fun k => k = w.heap.size ∨ k = w.heap.size + 1) (Agree.refl _ _) (p := ⟨w.heap.size, 3, none⟩) (.inl rfl) _) (p := ⟨w.heap.size + 1, 0, none⟩) (.inr rfl) _
  have hA3 : Agree W3 w3 (fun k => v'.ownBlock = some k) := (h5.more fun _ _ h => h.elim).trans hg3.agree
  have hszW : w2.heap.size ≤ W3.heap.size := hAg3.size
  have hsz5 := h5.size
  have hsz3 := hA3.size
  have hA24 : Agree w2 w4 (fun k => k = w.heap.size ∨ v'.ownBlock = some k ∨ k = w.heap.size + 1) :=
    ((hAg3.more fun _ _ h => .inl h).trans (hA3.more fun _ _ h => .inr (.inl h))).trans (hA34.more fun _ _ h => h.elim .inl fun h => .inr (.inr h))
  have hAg : Agree wr w4 (fun k => k = w.heap.size ∨ v'.ownBlock = some k ∨ k = w.heap.size + 1) := (Agree.of_below hb2 _).trans hA24
  have hYX : ∀ k, (k = w.heap.size ∨ v'.ownBlock = some k ∨ k = w.heap.size + 1) → XP w v' next k := fun k h => by
    rcases h with h | h | h
    · exact .inr (.inr ⟨by omega, by omega⟩)
    · exact .inl h
    · exact .inr (.inr ⟨by omega, by omega⟩)
  have hXX : ∀ k, k < wr.heap.size → XP w v'' next k → XP w v' next k := fun k hk h => by
    rcases h with h | h | h
    · rcases hg3.row k h with h1 | h1
      · omega
      · exact .inl h1
    · exact .inr (.inl h)
    · exact .inr (.inr h)
  have hrow : ∀ j, v''.ownBlock = some j → j < w.heap.size ∨ w.heap.size + 3 ≤ j := fun j hj => by
    rcases hg3.row j hj with h1 | h1
    · right; omega
    · exact P.row j h1
  have hnotv : ∀ k, w.heap.size ≤ k → k < w.heap.size + 3 → ¬ v'.ownBlock = some k := fun k h1 h2 e => by have := P.row k e; omega
  refine ⟨half_step P.half hkt hgr, by have := congrArg List.length hkt; rw [List.length_drop] at this; have := P.far.len; rw [List.length_drop] at this; omega, lay_leaf P.sv hgr hgo, ?_, ?_, ?_, ?_, ?_, ?_, ?_, ?_, ?_, leads_leaf P.fks hgr hgo, ?_, hrow, ?_⟩
  · rw [List.length_append, List.length_singleton]; unfold fst1; rw [if_neg (by omega)]
  · have hS3' : w3.heap[w.heap.size]? = some (.cells #[.string (L' ++ letS k0 d), .string (M' ++ ⟨#[48]⟩), .string (F' ++ fst1 done.length), v', .int .i64 keep] 92 (0, 0)) := by
      rw [hA3.block _ (by omega) (hnotv _ (by omega) (by omega))]; exact hS3
    rw [hw4, heap_setCell_other _ _ _ _ (by show w.heap.size ≠ w.heap.size + 1; omega), heap_setCell_same w3 w.heap.size 3 _ _ _ hS3']
    simp
  · rw [hw4]
    have hF3 : (w3.setCell ⟨w.heap.size, 3, none⟩ v'').heap[w.heap.size + 1]? = some (.cells #[.slice A' n' c', .int .i64 d] 155 (0, 0)) := by
      rw [heap_setCell_other _ _ _ _ (by show w.heap.size + 1 ≠ w.heap.size; omega), hA3.block _ (by omega) (hnotv _ (by omega) (by omega)), hAg3.block _ (by omega) (by omega), hb2.block _ (by omega)]
      exact P.boxF
    rw [heap_setCell_same _ (w.heap.size + 1) 0 _ _ _ hF3]
    simp
  · have hR2 : ¬ (w.heap.size + 2 = w.heap.size ∨ v'.ownBlock = some (w.heap.size + 2) ∨ w.heap.size + 2 = w.heap.size + 1) := fun h => by
      rcases h with h | h | h
      · omega
      · exact hnotv _ (by omega) (by omega) h
      · omega
    rw [hAg.block _ (by omega) hR2]
    exact P.boxR
  · exact hown.agree hA34 (fun k hk h => by have := hrow k hk; omega)
  · exact hA'' _ _ (P.far.step hAg (fun k _ h => hYX k h) hXX)
  · have := P.cap; exact ⟨by omega, by omega⟩
  · refine P.ownF.agree hAg (fun k hk h => ?_)
    rcases h with h | h | h
    · have := (hrowN k hk).1; omega
    · exact P.apart k hk h
    · have := (hrowN k hk).1; omega
  · refine P.held.step fun A n l h => h.step hAg (fun k _ h => Or.inl (hYX k h)) (fun k hk h => ?_)
    rcases h with h | h
    · exact Or.inl (hXX k hk h)
    · exact Or.inr h
  · intro g hg hv
    rcases hg3.row g hv with h | h
    · have := (hrowN g hg).2; omega
    · exact P.apart g hg h
  · have hG1 : Grew w W5 v v' := P.grew.other (o5.trans (e1.trans hb2.os)) (t5.trans (e2.trans hb2.tape)) (p5.trans (e3.trans hb2.output)) (((Agree.of_below hb2 (fun k => k = w.heap.size)).trans hAg3).trans (h5.more fun _ _ h => h.elim)) (fun k h => by omega)
    rw [hw4]
    exact ((hG1.trans hg3).setCell (p := ⟨w.heap.size, 3, none⟩) (Nat.le_refl _) _).setCell (p := ⟨w.heap.size + 1, 0, none⟩) (by show w.heap.size ≤ w.heap.size + 1; omega) _

/-- ahead of the loop -/
theorem put_start {w : World} {base : Nat} {v : Value} {L M F : ByteArray} {R l : List ByteArray} {keep d : Nat} {A : Option Addr} {n c : Nat} (ho : Own w base v R) (hfar : Far w (fun k => v.ownBlock = some k) A n l) (hnc : n ≤ c) (hc : c ≤ maxLen) (g : Nat) (hg : g = w.heap.size + 3) :
    PutP w base v L M F R l keep d (.slice (some ⟨g, 0, none⟩) 0 0) (.string ⟨#[49]⟩)
      ((((w.alloc (.cells #[.string L, .string M, .string F, v, .int .i64 keep] 92)).alloc (.cells #[.slice A n c, .int .i64 d] 155)).alloc (.cells #[.string ⟨#[]⟩, .string ⟨#[]⟩, .string ⟨#[]⟩, .slice none 0 0, .int .i64 0] 92)).alloc (.cells #[] 155))
      [] 0 L M F v R A n c [] [] := by
  subst hg
  have hA : Agree w ((((w.alloc (.cells #[.string L, .string M, .string F, v, .int .i64 keep] 92)).alloc (.cells #[.slice A n c, .int .i64 d] 155)).alloc (.cells #[.string ⟨#[]⟩, .string ⟨#[]⟩, .string ⟨#[]⟩, .slice none 0 0, .int .i64 0] 92)).alloc (.cells #[] 155)) (fun _ => False) :=
    ((((Agree.refl _ _).alloc _).alloc _).alloc _).alloc _
  refine ⟨T.half_zero _ _, Nat.zero_le _, (T.lay_nil _ _).symm, rfl, ?_, ?_, ?_, ?_, ?_, ⟨hnc, hc⟩, ?_, Held.nil _ _, rfl, ?_, ?_, ?_⟩
  · rw [Below.heap_alloc _ _ _ (by simp; omega), Below.heap_alloc _ _ _ (by simp; omega), Below.heap_alloc _ _ _ (by simp)]; exact heap_alloc_new _ _
  · rw [Below.heap_alloc _ _ _ (by simp), Below.heap_alloc _ _ _ (by simp)]
    have := heap_alloc_new (w.alloc (.cells #[.string L, .string M, .string F, v, .int .i64 keep] 92)) (.cells #[.slice A n c, .int .i64 d] 155)
    simpa using this
  · rw [Below.heap_alloc _ _ _ (by simp)]
    have := heap_alloc_new ((w.alloc (.cells #[.string L, .string M, .string F, v, .int .i64 keep] 92)).alloc (.cells #[.slice A n c, .int .i64 d] 155)) (.cells #[.string ⟨#[]⟩, .string ⟨#[]⟩, .string ⟨#[]⟩, .slice none 0 0, .int .i64 0] 92)
    simpa using this
  · exact ho.agree hA (fun _ _ h => h)
  · refine hfar.step hA (fun _ _ h => h.elim) (fun k hk h => ?_)
    rcases h with h | h | h
    · exact h
    · exfalso
      have : w.heap.size + 3 = k := by simpa [Value.ownBlock] using h
      omega
    · omega
  · exact OwnF.emptyAt _ _ _ (by simp) (Nat.le_refl _)
  · intro g hg hv
    have h1 : w.heap.size + 3 = g := by simpa [Value.ownBlock] using hg
    have := (ho.lt hv).2
    omega
  · intro j hj
    exact .inl (ho.lt hj).2
  · exact ((((Grew.refl w v).alloc _).alloc _).alloc _).alloc _

theorem rem_eq {A' : Option Addr} {n' c' : Nat} {l : List ByteArray} {m g : Nat} (hc : n' ≤ c') (hg : g ≤ n') (h : c' = g) : Rem A' n' l m g A' := by
  have := rem_if (A' := A') (l := l) (m := m) hc hg
  rw [if_pos h] at this; exact this
theorem rem_ne {b off : Nat} {n' c' : Nat} {l : List ByteArray} {m g : Nat} (hc : n' ≤ c') (hg : g ≤ n') (h : ¬ c' = g) (h0 : 0 < g) : Rem (some ⟨b, off, none⟩) n' l m g (some ⟨b, off + g, none⟩) := by
  have := rem_if (A' := some ⟨b, off, none⟩) (l := l) (m := m) hc hg
  rw [if_neg h] at this
  have e : (⟨b, off, none⟩ : Addr).add g = ⟨b, off + g, none⟩ := by unfold Addr.add; rw [if_neg (by omega)]
  rw [Option.map_some, e] at this
  exact this
theorem leads_len (d : Nat) (done : List T.Br) : (T.leads d done).length ≤ done.length := by
  unfold T.leads; rw [List.length_map]; exact List.length_filter_le _ _
theorem PutP.es_len {w : World} {base : Nat} {v : Value} {L M F : ByteArray} {R l : List ByteArray} {keep d : Nat} {next first : Value} {wr : World} {done : List T.Br} {m : Nat} {L' M' F' : ByteArray} {v' : Value} {R' : List ByteArray} {A' : Option Addr} {n' c' : Nat} {es : List (Value × Nat)} {qn : List (List ByteArray × Nat)}
    (P : PutP w base v L M F R l keep d next first wr done m L' M' F' v' R' A' n' c' es qn) : es.length ≤ done.length := by
  have h1 := P.held.1
  have h2 := congrArg List.length P.fks
  unfold fk at h2
  rw [List.length_map] at h2
  have := leads_len d done
  omega
/-- the row of forks, at the append -/
theorem put_ownF {w : World} {base : Nat} {v : Value} {L M F : ByteArray} {R l : List ByteArray} {keep d : Nat} {next first : Value} {wr : World} {done : List T.Br} {m : Nat} {L' M' F' : ByteArray} {v' : Value} {R' : List ByteArray} {A' : Option Addr} {n' c' : Nat} {es : List (Value × Nat)} {qn : List (List ByteArray × Nat)}
    (P : PutP w base v L M F R l keep d next first wr done m L' M' F' v' R' A' n' c' es qn) {w2 : World} (hb2 : Below wr.heap.size wr w2) (nq : Nat) (x1 x2 x3 : Value) (W : World)
    (hW : W = (((w2.drewN nq).setCell ⟨w.heap.size, 0, none⟩ x1).setCell ⟨w.heap.size, 2, none⟩ x2).setCell ⟨w.heap.size, 1, none⟩ x3) (o : Obj) :
    OwnF (W.alloc o) (w.heap.size + 3) next es ∧ Own W base v' R' ∧ (W.alloc o).heap[w2.heap.size]? = some o ∧ w.heap.size + 3 ≤ (W.alloc o).heap.size ∧
    W.heap[w.heap.size + 1]? = some (.cells #[.slice A' n' c', .int .i64 d] 155 (0, 0)) ∧ W.heap.size = w2.heap.size := by
  have hszr : w.heap.size + 3 ≤ wr.heap.size := by have := (Array.getElem?_eq_some_iff.1 P.boxR).1; omega
  have hsz2 := hb2.size
  have hA : Agree wr W (fun k => k = w.heap.size) := by
    rw [hW]
    have a0 : Agree wr (w2.drewN nq) (fun k => k = w.heap.size) := Agree.drewN (Agree.of_below hb2 _) nq
    have a1 := Agree.setCell a0 (p := ⟨w.heap.size, 0, none⟩) (show w.heap.size = w.heap.size from rfl) x1
    have a2 := Agree.setCell a1 (p := ⟨w.heap.size, 2, none⟩) (show w.heap.size = w.heap.size from rfl) x2
    exact Agree.setCell a2 (p := ⟨w.heap.size, 1, none⟩) (show w.heap.size = w.heap.size from rfl) x3
  have hsz : W.heap.size = w2.heap.size := by rw [hW]; simp
  refine ⟨P.ownF.agree (hA.alloc o) (fun k hk h => by have := (P.ownF.lt hk).1; omega), P.own.agree hA (fun k hk h => by have := P.row k hk; omega), ?_, by simp; omega, ?_, hsz⟩
  · rw [← hsz]; exact heap_alloc_new _ _
  · rw [hA.block _ (by omega) (by omega)]; exact P.boxF

/-- the fork's box behind the append of a fork -/
theorem put_boxF {w W w3 : World} {es : List (Value × Nat)} {next next' : Value} {o : Obj} {A' : Option Addr} {n' c' d : Nat} (hof : OwnF (W.alloc o) (w.heap.size + 3) next es) (h5 : W.heap[w.heap.size + 1]? = some (.cells #[.slice A' n' c', .int .i64 d] 155 (0, 0))) (hg3 : Grew (W.alloc o) w3 next next') :
    w3.cell? ⟨w.heap.size + 1, 0, none⟩ = some (.slice A' n' c') ∧ w3.frozen? ⟨w.heap.size + 1, 0, none⟩ = false := by
  have hlt5 := (Array.getElem?_eq_some_iff.1 h5).1
  have hF3 : w3.heap[w.heap.size + 1]? = some (.cells #[.slice A' n' c', .int .i64 d] 155 (0, 0)) := by
    rw [hg3.agree.block _ (Nat.lt_of_lt_of_le hlt5 (by simp)) (fun e => by have := (hof.lt e).1; omega), Below.heap_alloc _ _ _ hlt5]
    exact h5
  exact ⟨by rw [cell_of_row _ _ _ _ _ _ hF3]; rfl, by rw [frozen_of_row _ _ _ _ _ hF3]⟩

/-- append of one string, at a step of a region that draws -/
theorem step_str2 {ops : Array Oper} {o : Oper} {a : Act} {K : Act → World → Prop} {Q : Exit → Act → World → Prop} {E : Prop} (hgd : o.guard = none) (s x : Operand)
    (ho : o.op = .call { callee := .builtin .append, args := #[s, x], argTypes := #[90, 90] })
    (w : World) (base : Nat) (v : Value) (l : List ByteArray) (hs : a.eval s = v) (hown : Own w base v l) (b cc : Nat) (k : ByteArray)
    (hx : a.eval x = .slice (some ⟨b, 0, none⟩) 1 cc) (hcell : w.cell? ⟨b, 0, none⟩ = some (.string k)) (hl : l.length ≤ 4398046511104) (hbase : base ≤ w.heap.size)
    (h : ∀ g cap w', Own w' base (.slice (some ⟨g, 0, none⟩) (l.length + 1) cap) (l ++ [k]) → Grew w w' v (.slice (some ⟨g, 0, none⟩) (l.length + 1) cap) →
      K (a.put o.dst (.slice (some ⟨g, 0, none⟩) (l.length + 1) cap)) w') : if Region.wanted o (yielded ops a.tmps) = true then Oper.wp Tryz.prog o a w K Q else E := by
  obtain ⟨i0, hi, hz0, hz1, hz2⟩ := info_parts str_info
  refine step_append_lies w hgd s x _ ho base _ i0 (.string ⟨#[]⟩) 1 16 Tryz.underlying90 hi hz0 hz1 hz2 rfl (by decide) v l.length (l.map Value.string) hs hown ⟨b, 0, none⟩ 1 cc [.string k] hx rfl ?_ ?_ (by decide) ?_ ?_ hbase _ rfl ?_
  · intro j u hj
    match j, hj with
    | 0, hj => simp at hj; subst hj; simpa [Addr.add] using hcell
  · intro u hu; simp at hu; subst hu; rfl
  · unfold maxLen; omega
  · omega
  · intro g cap w' h2 h3 h4 _
    refine h g cap w' ?_ ⟨h3, fun j hj => ?_⟩
    · unfold Own
      rw [List.length_append, List.map_append]
      exact h2
    · have e : g = j := by simpa [Value.ownBlock] using hj
      subst e
      rcases h4 with h4 | h4
      · exact .inr h4
      · exact .inl (by omega)
/-- the boxes behind the append of what is kept -/
theorem put_boxes {w W W5 w3 : World} {v' v'' : Value} {L2 M2 F2 : ByteArray} {keep : Nat} {A' : Option Addr} {n' c' d : Nat} (hS : W.heap[w.heap.size]? = some (.cells #[.string L2, .string M2, .string F2, v', .int .i64 keep] 92 (0, 0)))
    (hF : W.heap[w.heap.size + 1]? = some (.cells #[.slice A' n' c', .int .i64 d] 155 (0, 0))) (h5 : Agree W W5 (fun _ => False)) (hg3 : Grew W5 w3 v' v'') (hrow : ∀ j, v'.ownBlock = some j → j < w.heap.size ∨ w.heap.size + 3 ≤ j) :
    w3.cell? ⟨w.heap.size, 3, none⟩ = some v' ∧ w3.frozen? ⟨w.heap.size, 3, none⟩ = false ∧ w3.cell? ⟨w.heap.size + 1, 0, none⟩ = some (.slice A' n' c') ∧ w3.frozen? ⟨w.heap.size + 1, 0, none⟩ = false := by
  have hl1 := (Array.getElem?_eq_some_iff.1 hS).1
  have hl2 := (Array.getElem?_eq_some_iff.1 hF).1
  have hsz := h5.size
  have hS3 : w3.heap[w.heap.size]? = some (.cells #[.string L2, .string M2, .string F2, v', .int .i64 keep] 92 (0, 0)) := by
    rw [hg3.agree.block _ (by omega) (fun e => by have := hrow _ e; omega), h5.block _ hl1 (fun h => h)]; exact hS
  have hF3 : w3.heap[w.heap.size + 1]? = some (.cells #[.slice A' n' c', .int .i64 d] 155 (0, 0)) := by
    rw [hg3.agree.block _ (by omega) (fun e => by have := hrow _ e; omega), h5.block _ hl2 (fun h => h)]; exact hF
  exact ⟨by rw [cell_of_row _ _ _ _ _ _ hS3]; rfl, by rw [frozen_of_row _ _ _ _ _ hS3], by rw [cell_of_row _ _ _ _ _ _ hF3]; rfl, by rw [frozen_of_row _ _ _ _ _ hF3]⟩

/-- where what is kept is appended -/
theorem put_rest {w w2 W : World} {base : Nat} {v' : Value} {R' : List ByteArray} {y1 : ByteArray} (q2 : Own W base v' R') (hb : base ≤ w.heap.size) (q4 : w.heap.size + 3 ≤ (W.alloc (.cells #[.string y1] 9 (0, 0))).heap.size) (q3 : (W.alloc (.cells #[.string y1] 9 (0, 0))).heap[w2.heap.size]? = some (.cells #[.string y1] 9 (0, 0))) :
    Own (W.alloc (.cells #[.string y1] 9 (0, 0))).drew base v' R' ∧ (W.alloc (.cells #[.string y1] 9 (0, 0))).drew.cell? ⟨w2.heap.size, 0, none⟩ = some (.string y1) ∧ base ≤ (W.alloc (.cells #[.string y1] 9 (0, 0))).drew.heap.size ∧
    Agree W (W.alloc (.cells #[.string y1] 9 (0, 0))).drew (fun _ => False) := by
  refine ⟨Own.heap (Own.alloc q2 _) rfl, ?_, ?_, ?_⟩
  · show (W.alloc (.cells #[.string y1] 9 (0, 0))).cell? ⟨w2.heap.size, 0, none⟩ = _
    rw [cell_of_row _ _ _ _ _ _ q3]; rfl
  · show base ≤ (W.alloc (.cells #[.string y1] 9 (0, 0))).heap.size
    omega
  · exact ⟨by show W.heap.size ≤ (W.alloc _).heap.size; simp, fun k hk _ => Below.heap_alloc _ _ _ hk⟩
/-- behind the append of what is kept -/
def RestR (w W5 : World) (base : Nat) (v' : Value) (R' : List ByteArray) (y1 : ByteArray) (wx : World) : Prop :=
  ∃ v'' w3, wx = w3.setCell ⟨w.heap.size, 3, none⟩ v'' ∧ Own w3 base v'' (R' ++ [y1]) ∧ Grew W5 w3 v' v''

theorem os_set (w : World) (a : Addr) (x : Value) : (w.setCell a x).os = w.os := rfl
theorem tape_set (w : World) (a : Addr) (x : Value) : (w.setCell a x).tape = w.tape := rfl
theorem out_set (w : World) (a : Addr) (x : Value) : (w.setCell a x).output = w.output := rfl
/-- behind the loop -/
theorem put_end {w : World} {base : Nat} {v : Value} {L M F : ByteArray} {R l : List ByteArray} {keep d : Nat} {next first : Value} {wr : World} {done : List T.Br} {m : Nat} {L' M' F' : ByteArray} {v' : Value} {R' : List ByteArray} {A' : Option Addr} {n' c' : Nat} {es : List (Value × Nat)} {qn : List (List ByteArray × Nat)}
    (P : PutP w base v L M F R l keep d next first wr done m L' M' F' v' R' A' n' c' es qn) (hm : m = l.length) (w5 : World) (x0 x1 x2 x3 x4 : Value)
    (h5 : w5 = ((((wr.setCell ⟨w.heap.size + 2, 0, none⟩ x0).setCell ⟨w.heap.size + 2, 1, none⟩ x1).setCell ⟨w.heap.size + 2, 2, none⟩ x2).setCell ⟨w.heap.size + 2, 3, none⟩ x3).setCell ⟨w.heap.size + 2, 4, none⟩ x4) :
    PutR3 w base v L M F R l keep d (.returned (.tuple #[.agg #[.string L', .string M', .string F', v', .int .i64 keep], next])) w5 := by
  have hA : Agree wr w5 (fun k => k = w.heap.size + 2) := by
    rw [h5]
    have a0 : Agree wr wr (fun k => k = w.heap.size + 2) := Agree.refl _ _
    have a1 := Agree.setCell a0 (p := ⟨w.heap.size + 2, 0, none⟩) (show w.heap.size + 2 = w.heap.size + 2 from rfl) x0
    have a2 := Agree.setCell a1 (p := ⟨w.heap.size + 2, 1, none⟩) (show w.heap.size + 2 = w.heap.size + 2 from rfl) x1
    have a3 := Agree.setCell a2 (p := ⟨w.heap.size + 2, 2, none⟩) (show w.heap.size + 2 = w.heap.size + 2 from rfl) x2
    have a4 := Agree.setCell a3 (p := ⟨w.heap.size + 2, 3, none⟩) (show w.heap.size + 2 = w.heap.size + 2 from rfl) x3
    exact Agree.setCell a4 (p := ⟨w.heap.size + 2, 4, none⟩) (show w.heap.size + 2 = w.heap.size + 2 from rfl) x4
  have hd := P.half
  rw [hm, List.drop_of_length_le (Nat.le_refl _)] at hd
  have hdone := T.half_end hd
  subst hdone
  refine ⟨L', M', F', v', R', next, es, qn, rfl, P.sv, P.own.agree hA (fun k hk h => by have := P.row k hk; omega), ?_, ?_, P.fks, P.apart, ?_⟩
  · have h1 := P.ownF.agree hA (fun k hk h => by have := (P.ownF.lt hk).1; omega)
    refine ⟨h1.1, ?_⟩
    rcases h1.2 with hn | ⟨g, cap, cur, hv, hbg, rest⟩
    · exact .inl hn
    · exact .inr ⟨g, cap, cur, hv, by omega, rest⟩
  · refine P.held.step fun A n l h => h.step hA (fun k _ hk => ?_) (fun k _ hk => ?_)
    · have hk' : k = w.heap.size + 2 := hk
      exact Or.inl (Or.inr (Or.inr ⟨by omega, by omega⟩))
    · have hk' : v'.ownBlock = some k ∨ next.ownBlock = some k ∨ k < w.heap.size := hk
      rcases hk' with e | e | e
      · exact Or.inl (Or.inl e)
      · exact Or.inl (Or.inr (Or.inl e))
      · exact Or.inr e
  · exact P.grew.other (by rw [h5, os_set, os_set, os_set, os_set, os_set]) (by rw [h5, tape_set, tape_set, tape_set, tape_set, tape_set]) (by rw [h5, out_set, out_set, out_set, out_set, out_set]) hA (fun k h => by omega)

/-- two results, the first in a box -/
theorem ret_pair {fn : Func} {p u : Tmp} {ty : TypeId} (h : fn.results = #[.cell p ty, .tmp u]) (tmps : Array Value) (w : World) (g : Nat) (cs : Array Value) (x : Value)
    (hp : tmps.getD p undef = .pointer (some ⟨g, 0, none⟩)) (hx : tmps.getD u undef = x) (hl : (loadVar ty ⟨g, 0, none⟩).run Tryz.prog w = .ok (.agg cs) w) :
    (results fn tmps).run Tryz.prog w = .ok (.tuple #[.agg cs, x]) w := by
  rw [results_cell_tmp h, hp, hx]
  simp [asAddr, Result.andThen, hl]
/-- five stores into a filter's box -/
theorem box_five {wr : World} {g : Nat} {y0 y1 y2 y3 y4 : Value} (hb : wr.heap[g]? = some (.cells #[y0, y1, y2, y3, y4] 92 (0, 0))) (x0 x1 x2 x3 x4 : Value) :
    (((((wr.setCell ⟨g, 0, none⟩ x0).setCell ⟨g, 1, none⟩ x1).setCell ⟨g, 2, none⟩ x2).setCell ⟨g, 3, none⟩ x3).setCell ⟨g, 4, none⟩ x4).heap[g]? = some (.cells #[x0, x1, x2, x3, x4] 92 (0, 0)) := by
  have h0 := heap_setCell_same wr g 0 _ _ x0 hb
  have h1 := heap_setCell_same _ g 1 _ _ x1 h0
  have h2 := heap_setCell_same _ g 2 _ _ x2 h1
  have h3 := heap_setCell_same _ g 3 _ _ x3 h2
  have h4 := heap_setCell_same _ g 4 _ _ x4 h3
  rw [h4]
  simp
theorem sieve_size : (Tryz.prog.info? 92).map (·.size) = some 5 := by kernel_rfl

/-- a filter's box, loaded whole -/
theorem load_sieve {w : World} {g : Nat} {x0 x1 x2 x3 x4 : Value} (hg : w.heap[g]? = some (.cells #[x0, x1, x2, x3, x4] 92 (0, 0))) : (loadVar 92 ⟨g, 0, none⟩).run Tryz.prog w = .ok (.agg #[x0, x1, x2, x3, x4]) w :=
  run_loadVar_row w g _ _ _ (0, 0) _ hg Tryz.underlying92 rfl sieve_size

end Go.Proofs.YtfhpkcamigkmdaaGreatDoor.W
