/-
  Contracts of the program's KeyOk, KeyBegins and KeysOk, at every string and every slice of strings that can be read.
  Memory of the program's tries: rows of any type that a call makes itself, appending one element, branches and nodes.
  Contracts of the program's small functions of filters: labels, letters, ends, bits, and the methods of branches and heads.
  Contracts of the program's newEnding, the methods of branches and heads, slices.Equal at strings, strings.Count at one byte.
  Contracts of slices.Equal at strings, and of the trie's find.
-/
import Derived.Test.YtfhpkcamigkmdaaGreatDoorZAA
import Derived.Test.YtfhpkcamigkmdaaGreatDoorV11
import Derived.Test.YtfhpkcamigkmdaaGreatDoorJ1
import Derived.Test.YtfhpkcamigkmdaaGreatDoorJ4
import Derived.Lib.Bytealg
import Derived.Laws.Externs
import Derived.Laws.Rows
namespace Go.Proofs.YtfhpkcamigkmdaaGreatDoor.W
open Go.RowKit K

theorem letter_iff (c : UInt8) : letterB c = true ↔ 97 ≤ c.toNat ∧ c.toNat ≤ 100 := by
  unfold letterB; simp
theorem letter_not {c : UInt8} (h : letterB c = false) : c.toNat < 97 ∨ (97 ≤ c.toNat ∧ 100 < c.toNat) := by
  have : ¬ (97 ≤ c.toNat ∧ c.toNat ≤ 100) := by rw [← letter_iff, h]; simp
  omega
theorem long_key {s : ByteArray} (h : ¬ s.size ≤ 5) : keyB s = false := by
  unfold keyB; simp [h]

set_option maxHeartbeats 400000 in
theorem keyI (s : ByteArray) (w : World) (hs : s.size ≤ maxLen) :
    Calls Tryz.prog 70 #[.string s] w fun e w' => e = .returned (.bool (keyB s)) ∧ w = w' := by
  unfold maxLen at hs
  by_cases h5 : s.size ≤ 5
  · have h5i : ¬ ((s.size : Int) > 5) := by omega
    go_enter Tryz.func70, Tryz.ntmps70
    go_wp2
    go_loop [9] (fun i => ∃ k : Nat, k ≤ s.size ∧ i = .int .i64 k ∧ allLet (s.data.toList.take k)) (fun i => s.size - (intOf i).toNat)
    case atStart => exact ⟨0, Nat.zero_le _, rfl, by simp [allLet]⟩
    case round =>
      obtain ⟨k, hk, rfl, ha⟩ := hrel
      by_cases hlt : k < s.size
      · have hb8 := (s[k]).toNat_lt
        rcases Bool.eq_false_or_eq_true (letterB s[k]) with hl | hl
        · have HL := Lib.hid hl
          obtain ⟨h1, h2⟩ := (letter_iff _).mp hl
          clear hl
          go_wp2
          go_round
          case rel => exact ⟨k + 1, by omega, by go_num, allLet_snoc s k hlt ha HL.out⟩
          case measure => simp [intOf]; omega
        · have HL := Lib.hid hl
          rcases letter_not hl with h1 | ⟨h1, h2⟩
          · clear hl
            go_wp2
            go_ret
            exact ⟨ret_bool (not_key s k hlt HL.out).symm, rfl⟩
          · clear hl
            go_wp2
            go_ret
            exact ⟨ret_bool (not_key s k hlt HL.out).symm, rfl⟩
      · go_wp2
        go_ret
        exact ⟨ret_bool (by rw [key_end s k hlt ha]; simp [h5]), rfl⟩
  · have h5i : (s.size : Int) > 5 := by omega
    go_enter Tryz.func70, Tryz.ntmps70
    go_wp2
    go_ret
    exact ⟨ret_bool (long_key h5).symm, rfl⟩

set_option maxHeartbeats 400000 in
theorem begI (k h : ByteArray) (w : World) :
    Calls Tryz.prog 188 #[.string k, .string h] w fun e w' => e = .returned (.bool (begB k h)) ∧ w = w' := by
  by_cases hle : h.size ≤ k.size
  · have hle2 : (h.size : Int) ≤ (k.size : Int) := by omega
    go_enter Tryz.func188, Tryz.ntmps188
    go_wp2
    go_ret
    exact ⟨ret_bool (by simp [begB, hle]), rfl⟩
  · have hle2 : ¬ (h.size : Int) ≤ (k.size : Int) := by omega
    go_enter Tryz.func188, Tryz.ntmps188
    go_wp2
    go_ret
    exact ⟨ret_bool (by simp [begB, hle]), rfl⟩

set_option maxHeartbeats 1000000 in
theorem keysI (w : World) (B n c : Nat) (A : Option Addr) (l : List ByteArray) (hr : Strs w B A n l) (hn : n ≤ maxLen) (hf : Fit l) :
    Calls Tryz.prog 177 #[.slice A n c] w fun e w' => e = .returned (.bool (keysB l)) ∧ w = w' := by
  have hlen := hr.len
  subst hlen
  unfold maxLen at hn
  have HF := Lib.hid hf
  have HR := Lib.hid hr
  clear hf hr
  by_cases h24 : l.length ≤ 24
  · have h24i : ¬ ((l.length : Int) > 24) := by omega
    go_enter Tryz.func177, Tryz.ntmps177
    go_wp2
    go_loop [10] (fun i => ∃ k : Nat, k ≤ l.length ∧ i = .int .i64 k ∧ good l k) (fun i => l.length - (intOf i).toNat)
    case atStart => exact ⟨0, Nat.zero_le _, rfl, good_zero l⟩
    case round =>
      obtain ⟨k, hk, rfl, hg⟩ := hrel
      have HG := Lib.hid hg
      clear hg
      by_cases hlt : k < l.length
      · obtain ⟨b, off, hA, hb, hc⟩ := HR.out.cell k hlt
        subst hA
        have hsz := HF.out.get hlt
        rcases Bool.eq_false_or_eq_true (keyB l[k]) with hkb | hkb
        · have HK := Lib.hid hkb
          by_cases h0 : k = 0
          · subst h0
            rw [Nat.add_zero] at hc
            go_wp2_with (go_at_call 70; refine (keyI _ _ hsz).mono ?_; rintro e w' ⟨rfl, rfl⟩)
            go_round
            case rel => exact ⟨1, by omega, by go_num, good_one hlt HK.out⟩
            case measure => simp [intOf]; omega
          · obtain ⟨j, hj⟩ : ∃ j, k = j + 1 := ⟨k - 1, by omega⟩
            subst hj
            have hjl : j < l.length := by omega
            obtain ⟨b', off', hA', _, hcj⟩ := HR.out.cell j hjl
            simp only [Option.some.injEq, Addr.mk.injEq, and_true] at hA'
            obtain ⟨rfl, rfl⟩ := hA'
            rcases Bool.eq_false_or_eq_true (Op.bytesLess l[j].toList l[j + 1].toList) with he | he
            · have HE := Lib.hid he
              go_wp2_with (go_at_call 70; refine (keyI _ _ hsz).mono ?_; rintro e w' ⟨rfl, rfl⟩)
              go_round
              case rel => exact ⟨j + 2, by omega, by go_num, good_succ HG.out hlt HK.out HE.out⟩
              case measure => simp [intOf]; omega
            · have HE := Lib.hid he
              go_wp2_with (go_at_call 70; refine (keyI _ _ hsz).mono ?_; rintro e w' ⟨rfl, rfl⟩)
              go_ret
              exact ⟨ret_bool (bad_order hlt HE.out).symm, rfl⟩
        · have HK := Lib.hid hkb
          go_wp2_with (go_at_call 70; refine (keyI _ _ hsz).mono ?_; rintro e w' ⟨rfl, rfl⟩)
          go_ret
          exact ⟨ret_bool (bad_key hlt HK.out).symm, rfl⟩
      · have hke : k = l.length := by omega
        subst hke
        go_wp2
        go_ret
        exact ⟨ret_bool (by rw [good_end HG.out]; simp [h24]), rfl⟩
  · have h24i : (l.length : Int) > 24 := by omega
    go_enter Tryz.func177, Tryz.ntmps177
    go_wp2
    go_ret
    exact ⟨ret_bool (by unfold keysB; simp [h24]), rfl⟩

end Go.Proofs.YtfhpkcamigkmdaaGreatDoor.W

namespace Go.Proofs.YtfhpkcamigkmdaaGreatDoor.W
open Go.RowKit K

/-- the slice v holds n elements of so many cells, in a row of the call's own, from block 'base' on -/
abbrev Row (E : TypeId) (sz : Nat) (w : World) (base : Nat) (v : Value) (n : Nat) (cs : List Value) : Prop := w.ownsRow base E sz v n cs
theorem Row.agree {E : TypeId} {sz : Nat} {w w' : World} {base : Nat} {v : Value} {n : Nat} {cs : List Value} {X : Nat → Prop} (h : Row E sz w base v n cs) (ha : Agree w w' X) (hx : ∀ k, v.ownBlock = some k → ¬ X k) : Row E sz w' base v n cs := by
  refine ⟨h.1, ?_⟩
  rcases h.2 with hn | ⟨g, cap, cur, hv, hbg, hg, rest⟩
  · exact .inl hn
  · refine .inr ⟨g, cap, cur, hv, hbg, ?_, rest⟩
    rw [ha.block g (Array.getElem?_eq_some_iff.1 hg).1 (hx g (by rw [hv]; rfl))]
    exact hg
theorem Row.lt_ {E : TypeId} {sz : Nat} {w : World} {base : Nat} {v : Value} {n : Nat} {cs : List Value} (h : Row E sz w base v n cs) {k : Nat} (hk : v.ownBlock = some k) : base ≤ k ∧ k < w.heap.size := World.ownsRow.lt h k hk
theorem Row.base_ {E : TypeId} {sz : Nat} {w : World} {base base' : Nat} {v : Value} {n : Nat} {cs : List Value} (h : Row E sz w base v n cs) (hb : base' ≤ base) : Row E sz w base' v n cs := by
  refine ⟨h.1, ?_⟩
  rcases h.2 with hn | ⟨g, cap, cur, hv, hbg, rest⟩
  · exact .inl hn
  · exact .inr ⟨g, cap, cur, hv, by omega, rest⟩
theorem Row.parts_ {E : TypeId} {sz : Nat} {w : World} {base : Nat} {v : Value} {n : Nat} {cs : List Value} (h : Row E sz w base v n cs) : ∃ (A : Option Addr) (c : Nat), v = .slice A n c ∧ n ≤ c ∧ c ≤ maxLen := by
  rcases h.2 with ⟨rfl, h0⟩ | ⟨g, cap, cur, rfl, hb, hg, hc, hm, hs, ht⟩
  · rw [h0]; exact ⟨none, 0, rfl, Nat.le_refl _, by unfold maxLen; omega⟩
  · exact ⟨_, cap, rfl, hc, hm⟩
theorem Row.cell_ {E : TypeId} {sz : Nat} {w : World} {base : Nat} {v : Value} {n : Nat} {cs : List Value} (h : Row E sz w base v n cs) {i : Nat} {u : Value} (hi : cs[i]? = some u) (h0 : cs.length ≤ n * sz) :
    ∃ g c, v = .slice (some ⟨g, 0, none⟩) n c ∧ base ≤ g ∧ g < w.heap.size ∧ w.cell? ⟨g, i, none⟩ = some u := by
  have hil := (List.getElem?_eq_some_iff.mp hi).1
  rcases h.2 with ⟨hv, hn⟩ | ⟨g, cap, cur, rfl, hb, hg, hc, hm, hs, ht⟩
  · subst hn; omega
  · refine ⟨g, cap, rfl, hb, (Array.getElem?_eq_some_iff.1 hg).1, ?_⟩
    have := h.cells (g := g) rfl i u hi
    have hadd : (⟨g, 0, none⟩ : Addr).add i = ⟨g, 0 + i, none⟩ := by unfold Addr.add; split <;> simp_all
    rw [hadd, Nat.zero_add] at this
    exact this
theorem add_at (b off i : Nat) : (⟨b, off, none⟩ : Addr).add i = ⟨b, off + i, none⟩ := by unfold Addr.add; split <;> simp_all

/-- append of one element of one cell -/
theorem app_one {ops : Array Oper} {rest : List Oper} {o : Oper} {a : Act} {Q : Exit → Act → World → Prop} (hgd : o.guard = none) (s x : Operand) (T E : TypeId) (z : Value) (by_ : Nat)
    (ho : o.op = .call { callee := .builtin .append, args := #[s, x], argTypes := #[T, T] }) (hT : Tryz.prog.underlying T = some (.slice E)) (hE : (Tryz.prog.info? E).map (fun i => (i.zero, i.size, i.bytes)) = some (some z, 1, by_)) (hz : z.cells.size = 1)
    (w : World) (base : Nat) (v : Value) (n : Nat) (cs : List Value) (hs : a.eval s = v) (hown : Row E 1 w base v n cs) (b cc : Nat) (k : Value)
    (hx : a.eval x = .slice (some ⟨b, 0, none⟩) 1 cc) (hcell : w.cell? ⟨b, 0, none⟩ = some k) (hk : k.oneCell' = true) (hl : n ≤ 1000000) (hby : by_ ≤ 100) (hbase : base ≤ w.heap.size)
    (h : ∀ v' w', Row E 1 w' base v' (n + 1) (cs ++ [k]) → Grew w w' v v' →
      wpList Tryz.prog ops Q rest (a.put o.dst v') w') : wpList Tryz.prog ops Q (o :: rest) a w := by
  obtain ⟨i0, hi, hz0, hz1, hz2⟩ := info_parts hE
  refine wpList_append_lies w hgd s x _ ho base _ i0 z 1 by_ hT hi hz0 hz1 hz2 hz (by decide) v n cs hs hown ⟨b, 0, none⟩ 1 cc [k] hx rfl ?_ ?_ (by decide) ?_ ?_ hbase _ rfl ?_
  · intro j u hj
    match j, hj with
    | 0, hj => simp at hj; subst hj; simpa [Addr.add] using hcell
  · intro u hu; simp at hu; subst hu; exact hk
  · unfold maxLen; omega
  · have : (n + 1) * by_ ≤ (n + 1) * 100 := Nat.mul_le_mul_left _ hby
    omega
  · intro g cap w' h2 h3 h4 _
    refine h _ w' h2 ⟨h3, fun j hj => ?_⟩
    have hjg : j = g := by simpa [Value.ownBlock] using hj.symm
    subst hjg
    rcases h4 with h4 | h4
    · exact .inr h4
    · exact .inl (by omega)

/-- a branch as the program holds it -/
def brV : T.TB → Value
  | .on c n => .iface 169 (.agg #[.int .u8 c.toNat, .int .i64 n])
  | .en c r w => .iface 171 (.agg #[.int .u8 c.toNat, .string (ba r), .bool w])
/-- a slice of branches reads as l, in a block that is none of some -/
structure Brs (w : World) (X : Nat → Prop) (A : Option Addr) (n : Nat) (l : List T.TB) : Prop where
  len : l.length = n
  cell : ∀ i (h : i < l.length), ∃ b off : Nat, A = some ⟨b, off, none⟩ ∧ b < w.heap.size ∧ ¬ X b ∧ w.cell? ⟨b, off + i, none⟩ = some (brV l[i])
theorem Brs.step {w w' : World} {X X' Y : Nat → Prop} {A : Option Addr} {n : Nat} {l : List T.TB} (h : Brs w X A n l) (ha : Agree w w' Y) (hY : ∀ k, k < w.heap.size → Y k → X k) (hX : ∀ k, k < w.heap.size → X' k → X k) : Brs w' X' A n l :=
  ⟨h.len, fun i hi => by
    obtain ⟨b, off, hA, hb, hne, hc⟩ := h.cell i hi
    refine ⟨b, off, hA, Nat.lt_of_lt_of_le hb ha.size, fun e => hne (hX b hb e), ?_⟩
    rw [ha.cell (p := ⟨b, off + i, none⟩) hb (fun e => hne (hY b hb e))]; exact hc⟩
theorem Brs.of_row {w : World} {base : Nat} {X : Nat → Prop} {v : Value} {A : Option Addr} {n c : Nat} {l : List T.TB} (h : Row 165 1 w base v l.length (l.map brV)) (hv : v = .slice A n c) (hX : ∀ k, v.ownBlock = some k → ¬ X k) : Brs w X A n l := by
  obtain ⟨A', c', hv', -, -⟩ := h.parts_
  have hn : l.length = n := by rw [hv] at hv'; injection hv' with _ h2 _; exact h2.symm
  refine ⟨hn, fun i hi => ?_⟩
  obtain ⟨g, c2, hv2, _, hg2, hcell⟩ := h.cell_ (i := i) (u := brV l[i]) (by rw [List.getElem?_map, List.getElem?_eq_getElem hi]; rfl) (by simp)
  rw [hv] at hv2
  injection hv2 with h1 h2 h3
  refine ⟨g, 0, h1, hg2, hX g (by rw [hv, h1]; rfl), by rw [Nat.zero_add]; exact hcell⟩
/-- a trie reads as t: a slice of slices of branches, in blocks that are none of some -/
structure Trs (w : World) (X : Nat → Prop) (A : Option Addr) (n : Nat) (t : T.Tr) : Prop where
  len : t.length = n
  cell : ∀ i (h : i < t.length), ∃ b off : Nat, A = some ⟨b, off, none⟩ ∧ b < w.heap.size ∧ ¬ X b ∧ ∃ Ai ci, w.cell? ⟨b, off + i, none⟩ = some (.slice Ai t[i].length ci) ∧ t[i].length ≤ ci ∧ ci ≤ maxLen ∧ Brs w X Ai t[i].length t[i]
theorem Trs.step {w w' : World} {X X' Y : Nat → Prop} {A : Option Addr} {n : Nat} {t : T.Tr} (h : Trs w X A n t) (ha : Agree w w' Y) (hY : ∀ k, k < w.heap.size → Y k → X k) (hX : ∀ k, k < w.heap.size → X' k → X k) : Trs w' X' A n t :=
  ⟨h.len, fun i hi => by
    obtain ⟨b, off, hA, hb, hne, Ai, ci, hc, h1, h2, hbr⟩ := h.cell i hi
    refine ⟨b, off, hA, Nat.lt_of_lt_of_le hb ha.size, fun e => hne (hX b hb e), Ai, ci, ?_, h1, h2, hbr.step ha hY hX⟩
    rw [ha.cell (p := ⟨b, off + i, none⟩) hb (fun e => hne (hY b hb e))]; exact hc⟩
theorem Trs.below {w w' : World} {A : Option Addr} {n : Nat} {t : T.Tr} {B : Nat} (h : Trs w (fun k => B ≤ k) A n t) (hb : Below B w w') : Trs w' (fun k => B ≤ k) A n t :=
  h.step (Y := fun k => B ≤ k) ⟨hb.size, fun k _ hk => hb.block k (by omega)⟩ (fun _ _ h => h) (fun _ _ h => h)

end Go.Proofs.YtfhpkcamigkmdaaGreatDoor.W

namespace Go.Proofs.YtfhpkcamigkmdaaGreatDoor.W
open Go.RowKit K

theorem ret_str {a b : ByteArray} (h : a = b) : Ending.returned (.string a) = .returned (.string b) := by rw [h]

theorem keepI (n : Int) (w : World) : Calls Tryz.prog 178 #[.int .i64 n] w fun e w' => e = .returned (.bool (inB n 0 5)) ∧ w = w' := by
  go_enter Tryz.func178, Tryz.ntmps178
  go_wp2
  · go_ret
    exact ⟨ret_bool (by simp [inB, *]), rfl⟩
  · go_ret
    exact ⟨ret_bool (by simp [inB, *]; omega), rfl⟩

theorem letI_in (k : ByteArray) (d : Nat) (h : d < k.size) : T.letter k.toList d = k[d] := by
  unfold T.letter
  rw [ByteArray.toList_eq, at_k k d h]; rfl
theorem letI_out (k : ByteArray) (d : Nat) (h : k.size ≤ d) : T.letter k.toList d = 45 := by
  unfold T.letter
  rw [List.getElem?_eq_none (by rw [ByteArray.toList_eq]; simpa using h)]; rfl

theorem labelI (k : ByteArray) (d : Nat) (w : World) :
    Calls Tryz.prog 157 #[.string k, .int .i64 d] w fun e w' => e = .returned (.int .u8 (T.letter k.toList d).toNat) ∧ w = w' := by
  by_cases hle : k.size ≤ d
  · have hle2 : (d : Int) ≥ (k.size : Int) := by omega
    go_enter Tryz.func157, Tryz.ntmps157
    go_wp2
    go_ret
    exact ⟨by rw [letI_out k d hle]; rfl, rfl⟩
  · have hle2 : ¬ (d : Int) ≥ (k.size : Int) := by omega
    go_enter Tryz.func157, Tryz.ntmps157
    go_wp2
    go_ret
    exact ⟨by rw [letI_in k d (by omega)]; simp, rfl⟩

theorem fromI (k : ByteArray) (d : Nat) (w : World) (hd : d ≤ 1000000) :
    Calls Tryz.prog 159 #[.string k, .int .i64 d] w fun e w' => e = .returned (.string (ba (k.toList.drop d))) ∧ w = w' := by
  have hs : k.toList.length = k.size := by rw [ByteArray.toList_eq]; rfl
  have key : ∀ m : Nat, m = min d k.size → k.extract m k.size = ba (k.toList.drop d) := by
    intro m hm
    have e : (k.extract m k.size).toList = k.toList.drop d := by
      rw [ext_l, hm]
      rcases Nat.le_total d k.size with h | h
      · rw [Nat.min_eq_left h, List.take_of_length_le (by rw [List.length_drop]; omega)]
      · rw [Nat.min_eq_right h, Nat.sub_self, List.take_zero, List.drop_eq_nil_of_le (by omega)]
    rw [← e, ba_of]
  go_enter Tryz.func159, Tryz.ntmps159
  go_wp2
  all_goals
    go_ret
    first
      | (refine ⟨ret_str (key _ ?_), rfl⟩; omega)
      | (have h1 := key k.size (by omega)
         refine ⟨ret_str ?_, rfl⟩
         rw [← h1]; simp)

theorem bitI (b : Bool) (w : World) : Calls Tryz.prog 199 #[.bool b] w fun e w' => e = .returned (.int .u8 (T.bit b).toNat) ∧ w = w' := by
  cases b with
  | true =>
    go_enter Tryz.func199, Tryz.ntmps199
    go_wp2
    go_ret
    exact ⟨rfl, rfl⟩
  | false =>
    go_enter Tryz.func199, Tryz.ntmps199
    go_wp2
    go_ret
    exact ⟨rfl, rfl⟩

theorem c45 (c : UInt8) : ((c.toNat : Int) = 45) ↔ c = 45 := by
  constructor
  · intro h; exact UInt8.toNat_inj.mp (by have : (45 : UInt8).toNat = 45 := rfl; omega)
  · rintro rfl; rfl
theorem convC (W : World) (c : UInt8) : (convert 145 9 (.slice (some ⟨W.heap.size, 0, none⟩) 1 1)).run Tryz.prog (W.alloc (.cells #[.int .u8 (c.toNat : Int)] 5)) =
    .ok (.string (ba [c])) (W.alloc (.cells #[.int .u8 (c.toNat : Int)] 5)) := by
  rw [run_convert_bytes_string _ _ _ _ _ _ _ Tryz.underlying145 Tryz.underlying5 Tryz.underlying9]
  rw [run_bytesToString (P := Tryz.prog) _ ⟨W.heap.size, 0, none⟩ 1 1 [(c.toNat : Int)] ?_]
  · simp [ba]; rfl
  · have hc := cell_new W (.int .u8 (c.toNat : Int)) 5
    simp [loadCells, loadCellsFrom, Addr.add, hc]
set_option maxRecDepth 8000 in
theorem wayI (c : UInt8) (w : World) : Calls Tryz.prog 187 #[.int .u8 c.toNat] w fun e w' => e = .returned (.string (ba (T.wayL c))) ∧ Below w.heap.size w w' := by
  by_cases h : c = 45
  · subst h
    go_enter Tryz.func187, Tryz.ntmps187
    go_wp2
    go_ret
    exact ⟨rfl, Below.refl _ _⟩
  · have h2 : ¬ ((c.toNat : Int) = 45) := fun e => h ((c45 c).mp e)
    have hcv := convC w c
    obtain ⟨n, hn⟩ : ∃ n, n = c.toNat := ⟨_, rfl⟩
    rw [← hn] at hcv h2 ⊢
    clear hn
    go_enter Tryz.func187, Tryz.ntmps187
    go_wp2
    go_ret
    refine ⟨ret_str ?_, (Below.refl _ _).alloc (Nat.le_refl _) _⟩
    unfold T.wayL
    rw [if_neg h]

end Go.Proofs.YtfhpkcamigkmdaaGreatDoor.W

namespace Go.Proofs.YtfhpkcamigkmdaaGreatDoor.W
open Go.RowKit K

set_option maxRecDepth 8000 in
theorem countI (s : ByteArray) (c : UInt8) (w : World) : Calls Tryz.prog 185 #[.string s, .string ⟨#[c]⟩] w fun e w' => e = .returned (.int .i64 ((s.toList.count c : Nat) : Int)) ∧ w = w' := by
  have hx : (callFunc 204 #[.string s, .int .u8 (c.toNat : Int)]).run Tryz.prog w = .ok (.value (.int .i64 ((s.toList.count c : Nat) : Int))) w := by
    rw [run_callFunc_extern Tryz.func204 (by kernel_rfl) (by kernel_rfl) (by kernel_rfl) (e := Extern.BytealgCount.count) (by kernel_rfl), Lib.run_countString]
    unfold Lib.countByte
    rw [ByteArray.toList_eq]
    simp [Result.andThen]
  go_enter Tryz.func185, Tryz.ntmps185
  have hx2 : (callFunc 204 #[.string s, .int .u8 (((⟨#[c]⟩ : ByteArray)[0]'(by show 0 < 1; omega)).toNat : Int)]).run Tryz.prog w = .ok (.value (.int .i64 ((s.toList.count c : Nat) : Int))) w := hx
  go_wp2
  go_ret
  exact ⟨rfl, rfl⟩

/-- which end a branch has -/
def endW (c : UInt8) (r : ByteArray) (kp : Nat) : Bool := decide (c = 45 ∨ r.toList.length < kp)
theorem ending_info : (Tryz.prog.info? 171).map (·.size) = some 3 := by kernel_rfl
set_option maxHeartbeats 1000000 in
theorem newE (c : UInt8) (r : ByteArray) (kp : Nat) (w : World) :
    Calls Tryz.prog 186 #[.int .u8 c.toNat, .string r, .int .i64 kp] w fun e w' => e = .returned (.agg #[.int .u8 c.toNat, .string r, .bool (endW c r kp)]) ∧ Below w.heap.size w w' := by
  have hs : r.toList.length = r.size := by rw [ByteArray.toList_eq]; rfl
  have hres : ∀ (tm : Array Value) (x0 x1 x2 : Value), tm.getD 6 undef = .pointer (some ⟨w.heap.size, 0, none⟩) → (results Tryz.f186 tm).run Tryz.prog (w.alloc (.cells #[x0, x1, x2] 171)) = .ok (.agg #[x0, x1, x2]) (w.alloc (.cells #[x0, x1, x2] 171)) := fun tm x0 x1 x2 ht =>
    results_cell_row rfl tm _ w.heap.size 171 _ (0, 0) _ ht (heap_alloc_new w _) Tryz.underlying171 rfl ending_info
  have HR := Lib.hid hres
  clear hres
  by_cases h : c = 45
  · subst h
    have HE := Lib.hid (show endW 45 r kp = true by unfold endW; exact decide_eq_true (.inl rfl))
    rw [HE.out, show ((UInt8.toNat 45 : Nat) : Int) = 45 from rfl]
    go_enter Tryz.func186, Tryz.ntmps186
    go_wp2
    exact bodyPost_ret (HR.out _ _ _ _ rfl) rfl ⟨rfl, (Below.refl _ _).alloc (Nat.le_refl _) _⟩
  · obtain ⟨n, hn⟩ : ∃ n, n = c.toNat := ⟨_, rfl⟩
    have h1 : ¬ (n : Int) = 45 := by rw [hn]; exact fun e => h ((c45 c).mp e)
    by_cases h2 : r.size < kp
    · have HE := Lib.hid (show endW c r kp = true by unfold endW; exact decide_eq_true (.inr (by omega)))
      rw [HE.out, ← hn]
      clear hn h
      have h3 : (r.size : Int) < (kp : Int) := by omega
      go_enter Tryz.func186, Tryz.ntmps186
      go_wp2
      exact bodyPost_ret (HR.out _ _ _ _ rfl) rfl ⟨rfl, (Below.refl _ _).alloc (Nat.le_refl _) _⟩
    · have HE := Lib.hid (show endW c r kp = false by unfold endW; exact decide_eq_false (by rintro (e | e); exact h e; omega))
      rw [HE.out, ← hn]
      clear hn h
      have h3 : ¬ (r.size : Int) < (kp : Int) := by omega
      go_enter Tryz.func186, Tryz.ntmps186
      go_wp2
      exact bodyPost_ret (HR.out _ _ _ _ rfl) rfl ⟨by rw [show ((n : Int) == 45) = false by simpa using h1], (Below.refl _ _).alloc (Nat.le_refl _) _⟩

theorem labOn (c : Int) (m : Int) (w : World) : Calls Tryz.prog 242 #[.agg #[.int .u8 c, .int .i64 m]] w fun e w' => e = .returned (.int .u8 c) ∧ Below w.heap.size w w' := by
  go_enter Tryz.func242, Tryz.ntmps242
  go_wp2
  go_ret
  exact ⟨rfl, (Below.refl _ _).alloc (Nat.le_refl _) _⟩
theorem labEn (c : Int) (r : ByteArray) (b : Bool) (w : World) : Calls Tryz.prog 243 #[.agg #[.int .u8 c, .string r, .bool b]] w fun e w' => e = .returned (.int .u8 c) ∧ Below w.heap.size w w' := by
  go_enter Tryz.func243, Tryz.ntmps243
  go_wp2
  go_ret
  exact ⟨rfl, (Below.refl _ _).alloc (Nat.le_refl _) _⟩

theorem begB_pre (k h : ByteArray) : begB k h = h.toList.isPrefixOf k.toList := by
  have hs : ∀ x : ByteArray, x.toList.length = x.size := fun x => by rw [ByteArray.toList_eq]; rfl
  rw [Bool.eq_iff_iff, List.isPrefixOf_iff_prefix]
  unfold begB
  simp only [Bool.and_eq_true, decide_eq_true_eq, beq_iff_eq, ext_l, List.drop_zero, Nat.sub_zero]
  rw [List.prefix_iff_eq_take, hs]
  constructor
  · rintro ⟨-, h2⟩; exact h2.symm
  · intro h2
    refine ⟨?_, h2.symm⟩
    have := congrArg List.length h2
    rw [List.length_take, hs, hs] at this
    omega
theorem takesI (c : Int) (r left : ByteArray) (b : Bool) (w : World) : Calls Tryz.prog 158 #[.agg #[.int .u8 c, .string r, .bool b], .string left] w fun e w' => e = .returned (.bool (T.takesB b r.toList left.toList)) ∧ Below w.heap.size w w' := by
  cases b with
  | true =>
    go_enter Tryz.func158, Tryz.ntmps158
    go_wp2
    go_ret
    exact ⟨ret_bool (by unfold T.takesB; simp), (Below.refl _ _).alloc (Nat.le_refl _) _⟩
  | false =>
    have HB := Lib.hid (fun W => begI left r W)
    go_enter Tryz.func158, Tryz.ntmps158
    go_wp2_with (go_at_call 188; refine (HB.out _).mono ?_; rintro e w1 ⟨rfl, hw1⟩)
    go_ret
    exact ⟨ret_bool (by unfold T.takesB; rw [begB_pre]; simp), by rw [← hw1]; exact (Below.refl _ _).alloc (Nat.le_refl _) _⟩

end Go.Proofs.YtfhpkcamigkmdaaGreatDoor.W

namespace Go.Proofs.YtfhpkcamigkmdaaGreatDoor.W
open Go.RowKit K

set_option maxHeartbeats 1000000 in
theorem equalI (w : World) (B n c n2 c2 : Nat) (A A2 : Option Addr) (l l2 : List ByteArray) (hr : Strs w B A n l) (hr2 : Strs w B A2 n2 l2) (hn : n ≤ maxLen) (hn2 : n2 ≤ maxLen) :
    Calls Tryz.prog 152 #[.slice A n c, .slice A2 n2 c2] w fun e w' => e = .returned (.bool (sameL l l2)) ∧ Same w w' := by
  have hlen := hr.len
  subst hlen
  have hlen2 := hr2.len
  subst hlen2
  unfold maxLen at hn hn2
  have HR := Lib.hid hr
  have HR2 := Lib.hid hr2
  clear hr hr2
  by_cases hll : l.length = l2.length
  · have HLL := Lib.hid hll
    have hne : ((l.length : Int) != (l2.length : Int)) = false := by simp [hll]
    clear hll
    go_enter Tryz.func152, Tryz.ntmps152
    go_wp2
    go_loopw [13] (fun i wr => ∃ k : Nat, k ≤ l.length ∧ i = .int .i64 k ∧ Hid (l.take k = l2.take k) ∧ Same w wr) (fun i _ => l.length - (intOf i).toNat)
    case atStart => exact ⟨0, Nat.zero_le _, rfl, Lib.hid rfl, Same.refl w⟩
    case round =>
      obtain ⟨k, hk, rfl, hg, hsm⟩ := hrel
      have HS := Lib.hid hsm
      clear hsm
      by_cases hlt : k < l.length
      · have hlt2 : k < l2.length := by have := HLL.out; omega
        obtain ⟨b, off, hA, hb, hc⟩ := (HS.out.strs HR.out).cell k hlt
        subst hA
        obtain ⟨b2, off2, hA2, hb2, hc2⟩ := (HS.out.strs HR2.out).cell k hlt2
        subst hA2
        have hx0 : (0 : Int) ≤ (k : Int) := by omega
        have hx1 : (k : Int) < (l.length : Int) := by omega
        have hx2 : (k : Int) < (l2.length : Int) := by omega
        rcases Bool.eq_false_or_eq_true (l[k].toList == l2[k].toList) with he | he
        · have HE := Lib.hid he
          go_wp2
          go_quiet (fail)
          go_wp2
          go_roundw
          case rel => exact ⟨k + 1, by omega, by go_num, Lib.hid (same_step hlt hlt2 HE.out hg.out), HS.out.drewN _⟩
          case measure => simp [intOf]; omega
        · have HE := Lib.hid he
          go_wp2
          go_quiet (fail)
          go_wp2
          go_ret
          exact ⟨ret_bool (same_at hlt hlt2 HE.out).symm, HS.out.drewN _⟩
      · have hke : k = l.length := by omega
        subst hke
        go_wp2
        go_ret
        exact ⟨ret_bool (same_end HLL.out hg.out).symm, HS.out⟩
  · have hne : ((l.length : Int) != (l2.length : Int)) = true := by simp; omega
    have HLL := Lib.hid hll
    clear hll
    go_enter Tryz.func152, Tryz.ntmps152
    go_wp2
    go_ret
    exact ⟨ret_bool (same_len HLL.out).symm, Same.refl w⟩

/-- a branch or none, as find answers -/
def optV : Option T.TB → Value
  | none => .nilIface
  | some b => brV b
theorem lab_eq (c x : UInt8) : ((c.toNat : Int) == (x.toNat : Int)) = (c == x) := by
  rw [Bool.eq_iff_iff, beq_iff_eq, beq_iff_eq]
  constructor
  · intro h; exact UInt8.toNat_inj.mp (by omega)
  · rintro rfl; rfl
theorem find_yes {l : List T.TB} {x : UInt8} {k : Nat} (hk : k < l.length) (hno : ∀ b ∈ l.take k, (b.lab == x) = false) (h : (l[k].lab == x) = true) : (l.find? fun b => b.lab == x) = some l[k] := by
  conv => lhs; rw [← List.take_append_drop k l, List.drop_eq_getElem_cons hk]
  rw [List.find?_append, List.find?_eq_none.mpr (fun b hb => by rw [hno b hb]; simp), List.find?_cons, h]
  rfl
theorem find_no {l : List T.TB} {x : UInt8} (hno : ∀ b ∈ l.take l.length, (b.lab == x) = false) : (l.find? fun b => b.lab == x) = none := by
  rw [List.take_length] at hno
  exact List.find?_eq_none.mpr (fun b hb => by rw [hno b hb]; simp)
theorem find_next {l : List T.TB} {x : UInt8} {k : Nat} (hk : k < l.length) (hno : ∀ b ∈ l.take k, (b.lab == x) = false) (h : (l[k].lab == x) = false) : ∀ b ∈ l.take (k + 1), (b.lab == x) = false := by
  rw [List.take_add_one, List.getElem?_eq_getElem hk]
  intro b hb
  rcases List.mem_append.mp hb with hb | hb
  · exact hno b hb
  · have : b = l[k] := by simpa using hb
    rw [this]; exact h

set_option maxHeartbeats 1000000 in
theorem findI (w : World) (B n c j : Nat) (A : Option Addr) (t : T.Tr) (x : UInt8) (hr : Trs w (fun k => B ≤ k) A n t) (hn : n ≤ 1000) (hj : j < t.length) (hl : t[j].length ≤ 1000) :
    Calls Tryz.prog 156 #[.slice A n c, .int .i64 j, .int .u8 x.toNat] w fun e w' => e = .returned (optV (t[j].find? fun b => b.lab == x)) ∧ Below w.heap.size w w' := by
  have hlen := hr.len
  subst hlen
  obtain ⟨b, off, hA, hb, hbX, Ai, ci, hcell, hci, hcm, hbr⟩ := hr.cell j hj
  subst hA
  have HBR := Lib.hid hbr
  obtain ⟨l, hl2⟩ : ∃ l, l = t[j] := ⟨_, rfl⟩
  rw [← hl2] at hl hcell hci HBR ⊢
  clear hl2 hbr
  have hx0 : (0 : Int) ≤ (j : Int) := by omega
  have hx1 : (j : Int) < (t.length : Int) := by omega
  go_enter Tryz.func156, Tryz.ntmps156
  go_wp2
  go_loopw [14] (fun i wr => ∃ k : Nat, k ≤ l.length ∧ i = .int .i64 k ∧ Hid (∀ b ∈ l.take k, (b.lab == x) = false) ∧ Below w.heap.size w wr) (fun i _ => l.length - (intOf i).toNat)
  case atStart => exact ⟨0, Nat.zero_le _, rfl, Lib.hid (fun b hb => by simp at hb), Below.refl _ _⟩
  case round =>
    obtain ⟨k, hk, rfl, hno, hbl⟩ := hrel
    have HB := Lib.hid hbl
    have hsz := hbl.size
    clear hbl
    by_cases hlt : k < l.length
    · obtain ⟨b2, off2, hA2, hb2, -, hc2⟩ := HBR.out.cell k hlt
      subst hA2
      have hc3 : wr.cell? ⟨b2, off2 + k, none⟩ = some (brV l[k]) := by rw [HB.out.cell (p := ⟨b2, off2 + k, none⟩) hb2]; exact hc2
      have hy0 : (0 : Int) ≤ (k : Int) := by omega
      have hy1 : (k : Int) < (l.length : Int) := by omega
      rcases Bool.eq_false_or_eq_true (l[k].lab == x) with he | he
      · have HF := Lib.hid (find_yes hlt hno.out he)
        cases hbk : l[k] with
        | on cc m =>
          rw [hbk] at hc3 HF he
          have hc4 : wr.cell? ⟨b2, off2 + k, none⟩ = some (.iface 169 (.agg #[.int .u8 cc.toNat, .int .i64 m])) := hc3
          have he2 : ((cc.toNat : Int) == (x.toNat : Int)) = true := by rw [lab_eq]; exact he
          clear hc3 hbk he
          go_wp2
          go_ret
          exact ⟨by rw [HF.out]; rfl, HB.out.alloc hsz _⟩
        | en cc r ww =>
          rw [hbk] at hc3 HF he
          have hc4 : wr.cell? ⟨b2, off2 + k, none⟩ = some (.iface 171 (.agg #[.int .u8 cc.toNat, .string (ba r), .bool ww])) := hc3
          have he2 : ((cc.toNat : Int) == (x.toNat : Int)) = true := by rw [lab_eq]; exact he
          clear hc3 hbk he
          go_wp2
          go_ret
          exact ⟨by rw [HF.out]; rfl, HB.out.alloc hsz _⟩
      · have HF := Lib.hid (find_next hlt hno.out he)
        cases hbk : l[k] with
        | on cc m =>
          rw [hbk] at hc3 he
          have hc4 : wr.cell? ⟨b2, off2 + k, none⟩ = some (.iface 169 (.agg #[.int .u8 cc.toNat, .int .i64 m])) := hc3
          have he2 : ((cc.toNat : Int) == (x.toNat : Int)) = false := by rw [lab_eq]; exact he
          clear hc3 hbk he
          go_wp2
          go_roundw
          case rel => exact ⟨k + 1, by omega, by go_num, HF, HB.out.alloc hsz _⟩
          case measure => simp [intOf]; omega
        | en cc r ww =>
          rw [hbk] at hc3 he
          have hc4 : wr.cell? ⟨b2, off2 + k, none⟩ = some (.iface 171 (.agg #[.int .u8 cc.toNat, .string (ba r), .bool ww])) := hc3
          have he2 : ((cc.toNat : Int) == (x.toNat : Int)) = false := by rw [lab_eq]; exact he
          clear hc3 hbk he
          go_wp2
          go_roundw
          case rel => exact ⟨k + 1, by omega, by go_num, HF, HB.out.alloc hsz _⟩
          case measure => simp [intOf]; omega
    · have hke : k = l.length := by omega
      subst hke
      go_wp2
      go_ret
      exact ⟨by rw [find_no hno.out]; rfl, HB.out⟩

end Go.Proofs.YtfhpkcamigkmdaaGreatDoor.W
