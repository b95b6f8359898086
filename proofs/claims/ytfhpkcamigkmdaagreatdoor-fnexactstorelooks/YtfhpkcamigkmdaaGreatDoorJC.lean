/-
  Contracts of strings.Builder's WriteByte and String, with all that they leave as it was: for several builders side by side.
  Contract of the trie's sieve: a trie written as a filter.
  Contract of the trie's sieve, the walk: a trie written as a filter.
-/
import Derived.Test.YtfhpkcamigkmdaaGreatDoorJB
import Derived.Lib.Builder
import Derived.Lib.UnsafeStr
namespace Go.Proofs.YtfhpkcamigkmdaaGreatDoor.W
open Go.RowKit K

/-- bytes as cells -/
def u8s (bs : T.Str) : List Value := bs.map fun c => .int .u8 (c.toNat : Int)
/-- the builder at block g holds these bytes -/
structure Bld (w : World) (g base : Nat) (v : Value) (bs : T.Str) : Prop where
  box : ∃ p, (p = .pointer none ∨ p = .pointer (some ⟨g, 0, none⟩)) ∧ w.heap[g]? = some (.cells #[p, v] 224 (0, 0))
  row : Row 5 1 w base v bs.length (u8s bs)
  ne : v.ownBlock ≠ some g
  nil : bs = [] → v = .slice none 0 0
theorem u8_info : (Tryz.prog.info? 5).map (fun i => (i.zero, i.size, i.bytes)) = some (some (.int .u8 0), 1, 1) := by kernel_rfl
theorem bld_size : (Tryz.prog.info? 224).map (·.size) = some 2 := by kernel_rfl
theorem bld_lies : liesAt Tryz.prog Tryz.prog.depth 224 (2 / Tryz.prog.cellsOf 224) 0 224 1 = true := by kernel_rfl

set_option maxRecDepth 100000 in
theorem checkI (g : Nat) (w : World) (p v : Value) (hp : p = .pointer none ∨ p = .pointer (some ⟨g, 0, none⟩)) (hb : w.heap[g]? = some (.cells #[p, v] 224 (0, 0))) :
    Calls Tryz.prog 212 #[.pointer (some ⟨g, 0, none⟩)] w fun e w' => e = .returned (.tuple #[]) ∧ w'.heap[g]? = some (.cells #[.pointer (some ⟨g, 0, none⟩), v] 224 (0, 0)) ∧ Agree w w' (fun k => k = g) ∧ (w'.os = w.os ∧ w'.tape = w.tape ∧ w'.output = w.output) ∧ w'.heap.size = w.heap.size := by
  obtain ⟨j, hj, hjs⟩ := Option.map_eq_some_iff.1 bld_size
  have hc0 : w.cell? ⟨g, 0, none⟩ = some p := by rw [cell_of_row _ _ _ _ _ _ hb]; rfl
  rcases hp with rfl | rfl
  · have hsh : w.shape? g = some (224, 2) := by simp [World.shape?, hb]
    have hfz : w.frozen? ⟨g, 0, none⟩ = false := by rw [frozen_of_row _ _ _ _ _ hb]
    have h1 := Lib.run_to_unsafe (P := Tryz.prog) w ⟨g, 0, none⟩ Tryz.underlying222 Tryz.underlying236 hj (by rw [hjs]; decide) hsh (Nat.zero_lt_succ 1)
    have h2 : (callFunc 217 #[.pointer (some ⟨g, 0, none⟩)]).run Tryz.prog w = .ok (.value (.pointer (some ⟨g, 0, none⟩))) w := by
      rw [run_callFunc_extern Tryz.func217 (by kernel_rfl) (by kernel_rfl) (by kernel_rfl) (e := Extern.AbiNoEscape.same) (by kernel_rfl), Lib.run_noEscape]
      rfl
    have h3 := Lib.run_from_unsafe (P := Tryz.prog) w ⟨g, 0, none⟩ Tryz.underlying236 Tryz.underlying222 hj hsh bld_lies
    have HB := Lib.hid hb
    clear hb
    go_enter Tryz.func212, Tryz.ntmps212
    go_wp2
    go_end0
    refine ⟨rfl, ?_, (Agree.refl w (fun k => k = g)).setCell (p := ⟨g, 0, none⟩) (show g = g from rfl) _, ⟨rfl, rfl, rfl⟩, by simp⟩
    have := heap_setCell_same w g 0 _ _ (.pointer (some ⟨g, 0, none⟩)) HB.out
    rw [this]; simp
  · have h1 := Lib.run_neq_ptr_same (P := Tryz.prog) w ⟨g, 0, none⟩ Tryz.underlying222 hj
    have HB := Lib.hid hb
    clear hb
    go_enter Tryz.func212, Tryz.ntmps212
    go_wp2
    go_end0
    exact ⟨rfl, HB.out, Agree.refl _ _, ⟨rfl, rfl, rfl⟩, rfl⟩

/-- what a byte more turns -/
def WroteR (w : World) (g base : Nat) (v : Value) (bs : T.Str) (e : Ending) (w' : World) : Prop :=
  ∃ v', e = .returned .nilIface ∧ Bld w' g base v' bs ∧ Agree w w' (fun k => k = g ∨ v.ownBlock = some k) ∧ (∀ k, v'.ownBlock = some k → w.heap.size ≤ k ∨ v.ownBlock = some k) ∧ (w'.os = w.os ∧ w'.tape = w.tape ∧ w'.output = w.output)

set_option maxHeartbeats 1000000 in
set_option maxRecDepth 100000 in
theorem writeI (w : World) (g base : Nat) (v : Value) (bs : T.Str) (c : UInt8) (h : Bld w g base v bs) (hlen : bs.length ≤ 1000) (hBw : base ≤ w.heap.size) :
    Calls Tryz.prog 198 #[.pointer (some ⟨g, 0, none⟩), .int .u8 c.toNat] w (WroteR w g base v (bs ++ [c])) := by
  obtain ⟨p, hp, hb⟩ := h.box
  have HC := Lib.hid (checkI g w p v hp hb)
  have hgl : g < w.heap.size := (Array.getElem?_eq_some_iff.1 hb).1
  have HH := Lib.hid h
  obtain ⟨x, hx⟩ : ∃ x, x = c.toNat := ⟨_, rfl⟩
  rw [← hx]
  have HX := Lib.hid hx
  clear h hb hp hx
  go_enter Tryz.func198, Tryz.ntmps198
  go_wp2_with fail
  go_at_call 212
  refine HC.out.mono ?_
  rintro e w1 ⟨rfl, hb1, hA1, hO1, hs1⟩
  have c1 : w1.cell? ⟨g, 1, none⟩ = some v := by rw [cell_of_row _ _ _ _ _ _ hb1]; rfl
  have HR1 := Lib.hid (Row.agree HH.out.row hA1 (fun k h1 h2 => HH.out.ne (by rw [h1]; exact congrArg some h2)))
  have HB1 := Lib.hid hb1
  have HA1 := Lib.hid hA1
  have HO1 := Lib.hid hO1
  have hgl1 : g < w1.heap.size := by omega
  have hB1w : base ≤ w1.heap.size := by omega
  have HS1 := Lib.hid hs1
  clear hb1 hA1 hO1 HC hs1
  go_wp2_with (at_builtin; go_must (refine app_one rfl (.tmp 11) (.tmp 13) 145 5 _ _ rfl Tryz.underlying145 u8_info rfl _ base _ _ _ rfl (Row.agree HR1.out ((Agree.refl _ (fun _ => False)).alloc _) (fun _ _ h => h)) _ _ _ rfl (cell_new _ _ _) rfl (by omega) (by decide) (by simp; omega) ?_); intro v' w2 hrow hg2; have hb2 : w2.heap[g]? = some (.cells #[.pointer (some ⟨g, 0, none⟩), v] 224 (0, 0)) := (by rw [hg2.agree.block g (by simp; omega) (fun e => HH.out.ne e), Below.heap_alloc _ _ _ hgl1]; exact HB1.out); have d1 : w2.cell? ⟨g, 1, none⟩ = some v := (by rw [cell_of_row _ _ _ _ _ _ hb2]; rfl); have f1 : w2.frozen? ⟨g, 1, none⟩ = false := (by rw [frozen_of_row _ _ _ _ _ hb2]); have HB2 := Lib.hid hb2; have HROW := Lib.hid hrow; have HG2 := Lib.hid hg2; clear hb2 hrow hg2; obtain ⟨A2, c2, hv2, -, -⟩ := Row.parts_ HROW.out; subst hv2)
  go_wp2
  go_ret
  have hag : Agree w w2 (fun k => k = g ∨ v.ownBlock = some k) := ((HA1.out.more fun _ _ h => .inl h).trans (((Agree.refl w1 _).alloc _))).trans (HG2.out.agree.more fun _ _ h => .inr h)
  have hrw : ∀ k, (Value.slice A2 (bs.length + 1) c2).ownBlock = some k → w.heap.size ≤ k ∨ v.ownBlock = some k := fun k hk => by
    rcases HG2.out.row k hk with h | h
    · left; simp at h; have := HS1.out; omega
    · exact .inr h
  have hne2 : (Value.slice A2 (bs.length + 1) c2).ownBlock ≠ some g := fun hk => by
    rcases HG2.out.row g hk with h | h
    · simp at h; omega
    · exact HH.out.ne h
  refine ⟨_, rfl, ⟨⟨_, .inr rfl, ?_⟩, ?_, hne2, fun h => by simp at h⟩, hag.setCell (p := ⟨g, 1, none⟩) (.inl rfl) _, hrw, ⟨by rw [os_set, HG2.out.grown.os]; exact HO1.out.1, by rw [tape_set, HG2.out.grown.tape]; exact HO1.out.2.1, by rw [out_set, HG2.out.grown.output]; exact HO1.out.2.2⟩⟩
  · have := heap_setCell_same w2 g 1 _ _ (.slice A2 (bs.length + 1) c2) HB2.out
    rw [this]; simp
  · have h1 : Row 5 1 w2 base (.slice A2 (bs.length + 1) c2) (bs ++ [c]).length (u8s (bs ++ [c])) := by
      have h2 := HROW.out
      unfold u8s
      rw [List.length_append, List.map_append]
      rw [HX.out] at h2
      exact h2
    exact Row.agree h1 ((Agree.refl w2 (fun k => k = g)).setCell (p := ⟨g, 1, none⟩) rfl _) (fun k hk e => hne2 (by rw [hk]; exact congrArg some e))

/-- what a builder's text turns: its own row alone -/
def ToldR (w : World) (v : Value) (bs : T.Str) (e : Ending) (w' : World) : Prop :=
  e = .returned (.string (ba bs)) ∧ Agree w w' (fun k => v.ownBlock = some k) ∧ (w'.os = w.os ∧ w'.tape = w.tape ∧ w'.output = w.output)
theorem agree_freeze (w : World) (g n : Nat) : Agree w (w.freeze ⟨g, 0, none⟩ n) (fun k => k = g) := by
  unfold World.freeze
  split
  · exact Agree.refl _ _
  · refine ⟨by simp, fun k _ hk => ?_⟩
    simp only [Array.getElem?_modify]
    rw [if_neg (fun e => hk e.symm)]
theorem freeze_rest (w : World) (p : Addr) (n : Nat) : (w.freeze p n).os = w.os ∧ (w.freeze p n).tape = w.tape ∧ (w.freeze p n).output = w.output := by
  unfold World.freeze
  split <;> exact ⟨rfl, rfl, rfl⟩

set_option maxHeartbeats 2000000 in
set_option maxRecDepth 100000 in
theorem toldI (w : World) (g base : Nat) (v : Value) (bs : T.Str) (h : Bld w g base v bs) (hlen : bs.length ≤ 1000) :
    Calls Tryz.prog 200 #[.pointer (some ⟨g, 0, none⟩)] w (ToldR w v bs) := by
  obtain ⟨p, -, hb⟩ := h.box
  by_cases h0 : bs = []
  · have hv := h.nil h0
    subst h0 hv
    have c1 : w.drew.cell? ⟨g, 1, none⟩ = some (.slice none 0 0) := by
      have : w.drew.heap[g]? = some (.cells #[p, .slice none 0 0] 224 (0, 0)) := hb
      rw [cell_of_row _ _ _ _ _ _ this]; rfl
    have hUS := fun (W : World) (q : Option Addr) => Lib.run_unsafeString_none (P := Tryz.prog) W 234 3 9 q
    have hSD : (Builtin.unsafeSliceData_ #[145] 234 #[.slice none 0 0]).run Tryz.prog w.drew = .ok (.pointer none) w.drew := rfl
    clear h hb
    go_enter Tryz.func200, Tryz.ntmps200
    go_wp2
    go_region
    all_goals
      go_wp2
      go_ret
      exact ⟨rfl, ⟨Nat.le_refl _, fun _ _ _ => rfl⟩, rfl, rfl, rfl⟩
  · obtain ⟨gb, cap, cur, hv, hbg, hg, hnc, hcm, hcs, htake⟩ : ∃ gb cap cur, v = .slice (some ⟨gb, 0, none⟩) bs.length cap ∧ base ≤ gb ∧ w.heap[gb]? = some (.cells cur 5 (0, 0)) ∧ bs.length ≤ cap ∧ cap ≤ maxLen ∧ cur.size = cap * 1 ∧ cur.toList.take (bs.length * 1) = u8s bs := by
      rcases h.row.2 with ⟨_, hz⟩ | ⟨gb, cap, cur, r⟩
      · exact absurd (List.eq_nil_of_length_eq_zero hz) h0
      · exact ⟨gb, cap, cur, r⟩
    subst hv
    have hsh : w.drew.shape? gb = some (5, cur.size) := by
      have : w.drew.heap[gb]? = some (.cells cur 5 (0, 0)) := hg
      simp [World.shape?, this]
    have c1 : w.drew.cell? ⟨g, 1, none⟩ = some (.slice (some ⟨gb, 0, none⟩) bs.length cap) := by
      have : w.drew.heap[g]? = some (.cells #[p, .slice (some ⟨gb, 0, none⟩) bs.length cap] 224 (0, 0)) := hb
      rw [cell_of_row _ _ _ _ _ _ this]; rfl
    have hpos : 0 < bs.length := List.length_pos_iff.mpr h0
    have hSD : (Builtin.unsafeSliceData_ #[145] 234 #[.slice (some ⟨gb, 0, none⟩) bs.length cap]).run Tryz.prog w.drew = .ok (.pointer (some ⟨gb, 0, none⟩)) w.drew :=
      Lib.run_unsafeSliceData_row _ _ _ _ _ _ (by omega)
    have hUS : (Builtin.unsafeString_ #[234, 3] 9 #[.pointer (some ⟨gb, 0, none⟩), .int .i64 bs.length]).run Tryz.prog w.drew = .ok (.string ⟨bs.toArray⟩) (w.drew.freeze ⟨gb, 0, none⟩ bs.length) := by
      refine Lib.run_unsafeString_row w.drew 234 3 9 5 Tryz.underlying234 (by kernel_rfl) gb cur.size hsh bs h0 (by omega) (by omega) ?_
      intro j x hx
      have hrow := h.row
      obtain ⟨g', c', hv', -, -, hcell⟩ := hrow.cell_ (i := j) (u := .int .u8 (x.toNat : Int)) (by unfold u8s; rw [List.getElem?_map, hx]; rfl) (by unfold u8s; simp)
      injection hv' with e1 e2 e3
      injection e1 with e4
      injection e4 with e5
      subst e5
      rw [add_at, Nat.zero_add]
      exact hcell
    have HFR := Lib.hid (freeze_rest w.drew ⟨gb, 0, none⟩ bs.length)
    clear h hb hg hcs htake hsh
    go_enter Tryz.func200, Tryz.ntmps200
    go_wp2
    go_region
    all_goals
      go_wp2
      go_ret
      exact ⟨rfl, (((agree_heap (w := w) (w' := w.drew) (fun k => k = gb) rfl).trans (agree_freeze w.drew gb bs.length)).more (fun k _ hk => by have hk' : k = gb := hk; rw [hk']; rfl)), HFR.out.1, HFR.out.2.1, HFR.out.2.2⟩

end Go.Proofs.YtfhpkcamigkmdaaGreatDoor.W

namespace Go.Proofs.YtfhpkcamigkmdaaGreatDoor.T
/-- how much is laid -/
theorem layN_len : ∀ (l : List TB) (s : Sv) (i : Nat), (layN s i l).letters.length = s.letters.length + l.length ∧ (layN s i l).more.length = s.more.length + l.length ∧ (layN s i l).first.length = s.first.length + l.length ∧ (layN s i l).rests.length ≤ s.rests.length + l.length
  | [], s, i => by simp [layN]
  | b :: l, s, i => by
    unfold layN
    obtain ⟨h1, h2, h3, h4⟩ := layN_len l (layT s i b) (i + 1)
    cases b with
    | on c m => simp [layT] at h1 h2 h3 h4 ⊢; omega
    | en c r w => simp [layT] at h1 h2 h3 h4 ⊢; omega
theorem layA_len : ∀ (t : Tr) (s : Sv), (layA s t).letters.length = s.letters.length + (t.map List.length).sum ∧ (layA s t).more.length = s.more.length + (t.map List.length).sum ∧ (layA s t).first.length = s.first.length + (t.map List.length).sum ∧ (layA s t).rests.length ≤ s.rests.length + (t.map List.length).sum
  | [], s => by simp [layA]
  | n :: t, s => by
    unfold layA
    obtain ⟨h1, h2, h3, h4⟩ := layA_len t (layN s 0 n)
    obtain ⟨g1, g2, g3, g4⟩ := layN_len n s 0
    rw [List.map_cons, List.sum_cons]
    omega
/-- the branches ahead of one -/
theorem sum_at (t : Tr) (i : Nat) (h : i < t.length) : ((t.take i).map List.length).sum + t[i].length ≤ (t.map List.length).sum := by
  conv => rhs; rw [← List.take_append_drop i t, List.drop_eq_getElem_cons h]
  rw [List.map_append, List.sum_append, List.map_cons, List.sum_cons]
  omega
end Go.Proofs.YtfhpkcamigkmdaaGreatDoor.T
namespace Go.Proofs.YtfhpkcamigkmdaaGreatDoor.W
open Go.RowKit K

theorem Bld.agree {w w' : World} {g base : Nat} {v : Value} {bs : T.Str} {X : Nat → Prop} (h : Bld w g base v bs) (ha : Agree w w' X) (hg : ¬ X g) (hv : ∀ k, v.ownBlock = some k → ¬ X k) : Bld w' g base v bs := by
  obtain ⟨p, hp, hb⟩ := h.box
  exact ⟨⟨p, hp, by rw [ha.block g (Array.getElem?_eq_some_iff.1 hb).1 hg]; exact hb⟩, Row.agree h.row ha hv, h.ne, h.nil⟩
/-- two rows lie apart -/
def Ap (a b : Value) : Prop := ∀ k, a.ownBlock = some k → b.ownBlock ≠ some k
theorem Ap.symm {a b : Value} (h : Ap a b) : Ap b a := fun k h1 h2 => h k h2 h1
theorem Ap.grow {a a' b : Value} {w : World} (h : Ap a b) (hr : ∀ k, a'.ownBlock = some k → w.heap.size ≤ k ∨ a.ownBlock = some k) (hb : ∀ k, b.ownBlock = some k → k < w.heap.size) : Ap a' b := fun k h1 h2 => by
  rcases hr k h1 with h3 | h3
  · have := hb k h2; omega
  · exact h k h3 h2
/-- the zero filter, where the result goes -/
abbrev zeroSv : Obj := .cells #[.string ⟨#[]⟩, .string ⟨#[]⟩, .string ⟨#[]⟩, .slice none 0 0, .int .i64 0] 92
/-- three builders and the rests, side by side -/
structure SB (w wr : World) (vL vM vF rv : Value) (L M F : T.Str) (R : List ByteArray) : Prop where
  bL : Bld wr (w.heap.size + 1) (w.heap.size + 4) vL L
  bM : Bld wr (w.heap.size + 2) (w.heap.size + 4) vM M
  bF : Bld wr (w.heap.size + 3) (w.heap.size + 4) vF F
  rs : Own wr (w.heap.size + 4) rv R
  lm : Ap vL vM
  lf : Ap vL vF
  lr : Ap vL rv
  mf : Ap vM vF
  mr : Ap vM rv
  fr : Ap vF rv
  res : wr.heap[w.heap.size]? = some zeroSv
  below : Below w.heap.size w wr
section
variable {w wr : World} {vL vM vF rv : Value} {L M F : T.Str} {R : List ByteArray}
theorem SB.size (S : SB w wr vL vM vF rv L M F R) : w.heap.size + 4 ≤ wr.heap.size := by
  obtain ⟨p, -, hb⟩ := S.bF.box
  have := (Array.getElem?_eq_some_iff.1 hb).1
  omega
theorem SB.low (S : SB w wr vL vM vF rv L M F R) {X : Nat → Prop} {w' : World} (ha : Agree wr w' X) (hO : w'.os = wr.os ∧ w'.tape = wr.tape ∧ w'.output = wr.output) (hX : ∀ k, X k → w.heap.size + 1 ≤ k) : Below w.heap.size w w' ∧ w'.heap[w.heap.size]? = some zeroSv :=
  ⟨⟨by rw [hO.1]; exact S.below.os, by rw [hO.2.1]; exact S.below.tape, by rw [hO.2.2]; exact S.below.output, Nat.le_trans S.below.size ha.size, fun k hk => by rw [ha.block k (by have := S.below.size; omega) (fun h => by have := hX k h; omega)]; exact S.below.block k hk⟩,
   by rw [ha.block _ (by have := S.size; omega) (fun h => by have := hX _ h; omega)]; exact S.res⟩
theorem SB.quiet (S : SB w wr vL vM vF rv L M F R) {w' : World} (ha : Agree wr w' (fun _ => False)) (hO : w'.os = wr.os ∧ w'.tape = wr.tape ∧ w'.output = wr.output) : SB w w' vL vM vF rv L M F R :=
  have h := S.low ha hO (fun _ h => h.elim)
  ⟨S.bL.agree ha (fun h => h) (fun _ _ h => h), S.bM.agree ha (fun h => h) (fun _ _ h => h), S.bF.agree ha (fun h => h) (fun _ _ h => h), S.rs.agree ha (fun _ _ h => h), S.lm, S.lf, S.lr, S.mf, S.mr, S.fr, h.2, h.1⟩
theorem SB.wL (S : SB w wr vL vM vF rv L M F R) {w' : World} {v' : Value} {L' : T.Str} (hb : Bld w' (w.heap.size + 1) (w.heap.size + 4) v' L') (ha : Agree wr w' (fun k => k = w.heap.size + 1 ∨ vL.ownBlock = some k)) (hr : ∀ k, v'.ownBlock = some k → wr.heap.size ≤ k ∨ vL.ownBlock = some k) (hO : w'.os = wr.os ∧ w'.tape = wr.tape ∧ w'.output = wr.output) : SB w w' v' vM vF rv L' M F R := by
  have hL : ∀ k, vL.ownBlock = some k → w.heap.size + 4 ≤ k := fun k hk => (Row.lt_ S.bL.row hk).1
  have hM : ∀ k, vM.ownBlock = some k → w.heap.size + 4 ≤ k ∧ k < wr.heap.size := fun k hk => Row.lt_ S.bM.row hk
  have hF : ∀ k, vF.ownBlock = some k → w.heap.size + 4 ≤ k ∧ k < wr.heap.size := fun k hk => Row.lt_ S.bF.row hk
  have hR : ∀ k, rv.ownBlock = some k → w.heap.size + 4 ≤ k ∧ k < wr.heap.size := fun k hk => S.rs.lt hk
  have h := S.low ha hO (fun k hk => by rcases hk with e | e; omega; have := hL k e; omega)
  refine ⟨hb, S.bM.agree ha ?_ ?_, S.bF.agree ha ?_ ?_, S.rs.agree ha ?_, S.lm.grow hr (fun k hk => (hM k hk).2), S.lf.grow hr (fun k hk => (hF k hk).2), S.lr.grow hr (fun k hk => (hR k hk).2), S.mf, S.mr, S.fr, h.2, h.1⟩
  · rintro (e | e); omega; have := hL _ e; omega
  · rintro k hk (e | e); have := (hM k hk).1; omega; exact S.lm k e hk
  · rintro (e | e); omega; have := hL _ e; omega
  · rintro k hk (e | e); have := (hF k hk).1; omega; exact S.lf k e hk
  · rintro k hk (e | e); have := (hR k hk).1; omega; exact S.lr k e hk
theorem SB.wM (S : SB w wr vL vM vF rv L M F R) {w' : World} {v' : Value} {M' : T.Str} (hb : Bld w' (w.heap.size + 2) (w.heap.size + 4) v' M') (ha : Agree wr w' (fun k => k = w.heap.size + 2 ∨ vM.ownBlock = some k)) (hr : ∀ k, v'.ownBlock = some k → wr.heap.size ≤ k ∨ vM.ownBlock = some k) (hO : w'.os = wr.os ∧ w'.tape = wr.tape ∧ w'.output = wr.output) : SB w w' vL v' vF rv L M' F R := by
  have hL : ∀ k, vL.ownBlock = some k → w.heap.size + 4 ≤ k ∧ k < wr.heap.size := fun k hk => Row.lt_ S.bL.row hk
  have hM : ∀ k, vM.ownBlock = some k → w.heap.size + 4 ≤ k := fun k hk => (Row.lt_ S.bM.row hk).1
  have hF : ∀ k, vF.ownBlock = some k → w.heap.size + 4 ≤ k ∧ k < wr.heap.size := fun k hk => Row.lt_ S.bF.row hk
  have hR : ∀ k, rv.ownBlock = some k → w.heap.size + 4 ≤ k ∧ k < wr.heap.size := fun k hk => S.rs.lt hk
  have h := S.low ha hO (fun k hk => by rcases hk with e | e; omega; have := hM k e; omega)
  refine ⟨S.bL.agree ha ?_ ?_, hb, S.bF.agree ha ?_ ?_, S.rs.agree ha ?_, (S.lm.symm.grow hr (fun k hk => (hL k hk).2)).symm, S.lf, S.lr, S.mf.grow hr (fun k hk => (hF k hk).2), S.mr.grow hr (fun k hk => (hR k hk).2), S.fr, h.2, h.1⟩
  · rintro (e | e); omega; have := hM _ e; omega
  · rintro k hk (e | e); have := (hL k hk).1; omega; exact S.lm k hk e
  · rintro (e | e); omega; have := hM _ e; omega
  · rintro k hk (e | e); have := (hF k hk).1; omega; exact S.mf k e hk
  · rintro k hk (e | e); have := (hR k hk).1; omega; exact S.mr k e hk
theorem SB.wF (S : SB w wr vL vM vF rv L M F R) {w' : World} {v' : Value} {F' : T.Str} (hb : Bld w' (w.heap.size + 3) (w.heap.size + 4) v' F') (ha : Agree wr w' (fun k => k = w.heap.size + 3 ∨ vF.ownBlock = some k)) (hr : ∀ k, v'.ownBlock = some k → wr.heap.size ≤ k ∨ vF.ownBlock = some k) (hO : w'.os = wr.os ∧ w'.tape = wr.tape ∧ w'.output = wr.output) : SB w w' vL vM v' rv L M F' R := by
  have hL : ∀ k, vL.ownBlock = some k → w.heap.size + 4 ≤ k ∧ k < wr.heap.size := fun k hk => Row.lt_ S.bL.row hk
  have hM : ∀ k, vM.ownBlock = some k → w.heap.size + 4 ≤ k ∧ k < wr.heap.size := fun k hk => Row.lt_ S.bM.row hk
  have hF : ∀ k, vF.ownBlock = some k → w.heap.size + 4 ≤ k := fun k hk => (Row.lt_ S.bF.row hk).1
  have hR : ∀ k, rv.ownBlock = some k → w.heap.size + 4 ≤ k ∧ k < wr.heap.size := fun k hk => S.rs.lt hk
  have h := S.low ha hO (fun k hk => by rcases hk with e | e; omega; have := hF k e; omega)
  refine ⟨S.bL.agree ha ?_ ?_, S.bM.agree ha ?_ ?_, hb, S.rs.agree ha ?_, S.lm, (S.lf.symm.grow hr (fun k hk => (hL k hk).2)).symm, S.lr, (S.mf.symm.grow hr (fun k hk => (hM k hk).2)).symm, S.mr, S.fr.grow hr (fun k hk => (hR k hk).2), h.2, h.1⟩
  · rintro (e | e); omega; have := hF _ e; omega
  · rintro k hk (e | e); have := (hL k hk).1; omega; exact S.lf k hk e
  · rintro (e | e); omega; have := hF _ e; omega
  · rintro k hk (e | e); have := (hM k hk).1; omega; exact S.mf k hk e
  · rintro k hk (e | e); have := (hR k hk).1; omega; exact S.fr k e hk
theorem SB.wR (S : SB w wr vL vM vF rv L M F R) {w' : World} {v' : Value} {R' : List ByteArray} (ho : Own w' (w.heap.size + 4) v' R') (hg : Grew wr w' rv v') : SB w w' vL vM vF v' L M F R' := by
  have hL : ∀ k, vL.ownBlock = some k → w.heap.size + 4 ≤ k ∧ k < wr.heap.size := fun k hk => Row.lt_ S.bL.row hk
  have hM : ∀ k, vM.ownBlock = some k → w.heap.size + 4 ≤ k ∧ k < wr.heap.size := fun k hk => Row.lt_ S.bM.row hk
  have hF : ∀ k, vF.ownBlock = some k → w.heap.size + 4 ≤ k ∧ k < wr.heap.size := fun k hk => Row.lt_ S.bF.row hk
  have hR : ∀ k, rv.ownBlock = some k → w.heap.size + 4 ≤ k := fun k hk => (S.rs.lt hk).1
  have h := S.low hg.agree ⟨hg.grown.os, hg.grown.tape, hg.grown.output⟩ (fun k hk => by have := hR k hk; omega)
  refine ⟨S.bL.agree hg.agree ?_ ?_, S.bM.agree hg.agree ?_ ?_, S.bF.agree hg.agree ?_ ?_, ho, S.lm, S.lf, (S.lr.symm.grow hg.row (fun k hk => (hL k hk).2)).symm, S.mf, (S.mr.symm.grow hg.row (fun k hk => (hM k hk).2)).symm, (S.fr.symm.grow hg.row (fun k hk => (hF k hk).2)).symm, h.2, h.1⟩
  · intro e; have := hR _ e; omega
  · intro k hk e; exact S.lr k hk e
  · intro e; have := hR _ e; omega
  · intro k hk e; exact S.mr k hk e
  · intro e; have := hR _ e; omega
  · intro k hk e; exact S.fr k hk e
end

end Go.Proofs.YtfhpkcamigkmdaaGreatDoor.W

namespace Go.Proofs.YtfhpkcamigkmdaaGreatDoor.W
open Go.RowKit K

section
variable {w wr : World} {vL vM vF rv : Value} {L M F : T.Str} {R : List ByteArray}
theorem SB.writeL (S : SB w wr vL vM vF rv L M F R) (c : UInt8) (hl : L.length ≤ 1000) : Calls Tryz.prog 198 #[.pointer (some ⟨w.heap.size + 1, 0, none⟩), .int .u8 c.toNat] wr fun e w' => e = .returned .nilIface ∧ ∃ v', SB w w' v' vM vF rv (L ++ [c]) M F R :=
  (writeI wr _ _ vL L c S.bL hl S.size).mono fun _ _ ⟨v', he, hb, ha, hr, hO⟩ => ⟨he, v', S.wL hb ha hr hO⟩
theorem SB.writeF (S : SB w wr vL vM vF rv L M F R) (c : UInt8) (hl : F.length ≤ 1000) : Calls Tryz.prog 198 #[.pointer (some ⟨w.heap.size + 3, 0, none⟩), .int .u8 c.toNat] wr fun e w' => e = .returned .nilIface ∧ ∃ v', SB w w' vL vM v' rv L M (F ++ [c]) R :=
  (writeI wr _ _ vF F c S.bF hl S.size).mono fun _ _ ⟨v', he, hb, ha, hr, hO⟩ => ⟨he, v', S.wF hb ha hr hO⟩
/-- .. and what was just laid stays -/
theorem SB.writeM (S : SB w wr vL vM vF rv L M F R) (c : UInt8) (hl : M.length ≤ 1000) (o : Obj) : Calls Tryz.prog 198 #[.pointer (some ⟨w.heap.size + 2, 0, none⟩), .int .u8 c.toNat] (wr.alloc o) fun e w' => e = .returned .nilIface ∧ (∃ v', SB w w' vL v' vF rv L (M ++ [c]) F R) ∧ w'.heap[wr.heap.size]? = some o := by
  have S1 := S.quiet ((Agree.refl wr (fun _ => False)).alloc o) ⟨rfl, rfl, rfl⟩
  refine (writeI (wr.alloc o) _ _ vM M c S1.bM hl S1.size).mono fun _ _ ⟨v', he, hb, ha, hr, hO⟩ => ⟨he, ⟨v', S1.wM hb ha hr hO⟩, ?_⟩
  rw [ha.block _ (by simp) (fun h => by
    rcases h with h | h
    · have := S.size; omega
    · have := (Row.lt_ S.bM.row h).2; omega)]
  exact heap_alloc_new wr o
end
theorem SB.start (w : World) : SB w ((((w.alloc zeroSv).alloc (.cells #[.pointer none, .slice none 0 0] 224)).alloc (.cells #[.pointer none, .slice none 0 0] 224)).alloc (.cells #[.pointer none, .slice none 0 0] 224)) (.slice none 0 0) (.slice none 0 0) (.slice none 0 0) (.slice none 0 0) [] [] [] [] := by
  have hA : ∀ k, Ap (.slice none 0 0) k := fun k j h => by cases h
  have s1 : (w.alloc zeroSv).heap.size = w.heap.size + 1 := World.size_alloc _ _
  have s2 : ((w.alloc zeroSv).alloc (.cells #[.pointer none, .slice none 0 0] 224)).heap.size = w.heap.size + 2 := by rw [World.size_alloc, s1]
  have s3 : (((w.alloc zeroSv).alloc (.cells #[.pointer none, .slice none 0 0] 224)).alloc (.cells #[.pointer none, .slice none 0 0] 224)).heap.size = w.heap.size + 3 := by rw [World.size_alloc, s2]
  refine ⟨⟨⟨_, .inl rfl, ?_⟩, World.ownsRow_nil _ _ _ _, (by intro h; cases h), fun _ => rfl⟩, ⟨⟨_, .inl rfl, ?_⟩, World.ownsRow_nil _ _ _ _, (by intro h; cases h), fun _ => rfl⟩, ⟨⟨_, .inl rfl, ?_⟩, World.ownsRow_nil _ _ _ _, (by intro h; cases h), fun _ => rfl⟩, Own.none_ _ _, hA _, hA _, hA _, hA _, hA _, hA _, ?_, ?_⟩
  · rw [Below.heap_alloc _ _ _ (by omega), Below.heap_alloc _ _ _ (by omega), ← s1]; exact heap_alloc_new _ _
  · rw [Below.heap_alloc _ _ _ (by omega), ← s2]; exact heap_alloc_new _ _
  · rw [← s3]; exact heap_alloc_new _ _
  · rw [Below.heap_alloc _ _ _ (by omega), Below.heap_alloc _ _ _ (by omega), Below.heap_alloc _ _ _ (by omega)]; exact heap_alloc_new _ _
  · exact ((((Below.refl _ _).alloc (Nat.le_refl _) _).alloc (by omega) _).alloc (by omega) _).alloc (by omega) _

/-- the three texts are told -/
structure Told (w wr : World) (rv : Value) (R : List ByteArray) : Prop where
  rs : Own wr (w.heap.size + 4) rv R
  res : wr.heap[w.heap.size]? = some zeroSv
  below : Below w.heap.size w wr
section
variable {w wr : World} {vL vM vF rv : Value} {L M F : T.Str} {R : List ByteArray}
/-- all but the first -/
structure SM (w wr : World) (vM vF rv : Value) (M F : T.Str) (R : List ByteArray) : Prop where
  bM : Bld wr (w.heap.size + 2) (w.heap.size + 4) vM M
  bF : Bld wr (w.heap.size + 3) (w.heap.size + 4) vF F
  mf : Ap vM vF
  mr : Ap vM rv
  fr : Ap vF rv
  t : Told w wr rv R
theorem Told.step {w' : World} {X : Nat → Prop} (S : Told w wr rv R) (ha : Agree wr w' X) (hO : w'.os = wr.os ∧ w'.tape = wr.tape ∧ w'.output = wr.output) (hX : ∀ k, X k → w.heap.size + 1 ≤ k) (hR : ∀ k, rv.ownBlock = some k → ¬ X k) : Told w w' rv R := by
  have hs := (Array.getElem?_eq_some_iff.1 S.res).1
  exact ⟨S.rs.agree ha hR, by rw [ha.block _ hs (fun h => by have := hX _ h; omega)]; exact S.res,
   ⟨by rw [hO.1]; exact S.below.os, by rw [hO.2.1]; exact S.below.tape, by rw [hO.2.2]; exact S.below.output, Nat.le_trans S.below.size ha.size, fun k hk => by rw [ha.block k (by omega) (fun h => by have := hX k h; omega)]; exact S.below.block k hk⟩⟩
theorem SB.tellL (S : SB w wr vL vM vF rv L M F R) (hl : L.length ≤ 1000) : Calls Tryz.prog 200 #[.pointer (some ⟨w.heap.size + 1, 0, none⟩)] wr fun e w' => e = .returned (.string (ba L)) ∧ SM w w' vM vF rv M F R :=
  (toldI wr _ _ vL L S.bL hl).mono fun _ _ ⟨he, ha, hO⟩ => by
    have hL : ∀ k, vL.ownBlock = some k → w.heap.size + 4 ≤ k := fun k hk => (Row.lt_ S.bL.row hk).1
    exact ⟨he, S.bM.agree ha (fun h => by have := hL _ h; omega) (fun k hk h => S.lm k h hk), S.bF.agree ha (fun h => by have := hL _ h; omega) (fun k hk h => S.lf k h hk), S.mf, S.mr, S.fr,
      (Told.mk S.rs S.res S.below).step ha hO (fun k h => by have := hL _ h; omega) (fun k hk h => S.lr k h hk)⟩
theorem SM.tellM (S : SM w wr vM vF rv M F R) (hl : M.length ≤ 1000) : Calls Tryz.prog 200 #[.pointer (some ⟨w.heap.size + 2, 0, none⟩)] wr fun e w' => e = .returned (.string (ba M)) ∧ Bld w' (w.heap.size + 3) (w.heap.size + 4) vF F ∧ Told w w' rv R :=
  (toldI wr _ _ vM M S.bM hl).mono fun _ _ ⟨he, ha, hO⟩ => by
    have hM : ∀ k, vM.ownBlock = some k → w.heap.size + 4 ≤ k := fun k hk => (Row.lt_ S.bM.row hk).1
    exact ⟨he, S.bF.agree ha (fun h => by have := hM _ h; omega) (fun k hk h => S.mf k h hk), S.t.step ha hO (fun k h => by have := hM _ h; omega) (fun k hk h => S.mr k h hk)⟩
theorem Bld.tellF (b : Bld wr (w.heap.size + 3) (w.heap.size + 4) vF F) (S : Told w wr rv R) (h : Ap vF rv) (hl : F.length ≤ 1000) : Calls Tryz.prog 200 #[.pointer (some ⟨w.heap.size + 3, 0, none⟩)] wr fun e w' => e = .returned (.string (ba F)) ∧ Told w w' rv R :=
  (toldI wr _ _ vF F b hl).mono fun _ _ ⟨he, ha, hO⟩ => by
    have hF : ∀ k, vF.ownBlock = some k → w.heap.size + 4 ≤ k := fun k hk => (Row.lt_ b.row hk).1
    exact ⟨he, S.step ha hO (fun k h => by have := hF _ h; omega) (fun k hk e => h k e hk)⟩
end
/-- a filter's value, its rests in a row of the call's own -/
def SvR (w : World) (S : T.Sv) (e : Ending) (w' : World) : Prop :=
  ∃ v, e = .returned (.agg #[.string (ba S.letters), .string (ba S.more), .string (ba S.first), v, .int .i64 S.keep]) ∧ Own w' w.heap.size v (S.rests.map ba) ∧ Below w.heap.size w w'
theorem keep_layN : ∀ (l : List T.TB) (s : T.Sv) (i : Nat), (T.layN s i l).keep = s.keep
  | [], _, _ => rfl
  | b :: l, s, i => by unfold T.layN; rw [keep_layN l]; rfl
theorem keep_layA : ∀ (t : T.Tr) (s : T.Sv), (T.layA s t).keep = s.keep
  | [], _ => rfl
  | n :: t, s => by unfold T.layA; rw [keep_layA t, keep_layN]

set_option maxHeartbeats 1500000 in
set_option maxRecDepth 100000 in
theorem sieveI (t : T.Tr) (A : Option Addr) (N c kp : Nat) (w : World) (hr : Trs w (fun k => w.heap.size ≤ k) A N t) (hN : N ≤ 1000) (hs : (t.map List.length).sum ≤ 1000) :
    Calls Tryz.prog 180 #[.slice A N c, .int .i64 kp] w (SvR w (T.layA (T.svNil kp) t)) := by
  have hNt := hr.len
  subst hNt
  have HR := Lib.hid hr
  have HSUM := Lib.hid hs
  clear hr hs
  have as1 := as_on
  have as2 := as_en
  have as3 := as_no
  have HSTART := Lib.hid (SB.start w)
  obtain ⟨y1, hy1⟩ : ∃ y : UInt8, y = 49 := ⟨_, rfl⟩
  obtain ⟨y0, hy0⟩ : ∃ y : UInt8, y = 48 := ⟨_, rfl⟩
  have HT1 := Lib.hid (show ∀ W, Calls Tryz.prog 199 #[.bool true] W fun e w' => e = .returned (.int .u8 y1.toNat) ∧ W = w' from fun W => by rw [hy1]; exact bitI true W)
  have HT0 := Lib.hid (show ∀ W, Calls Tryz.prog 199 #[.bool false] W fun e w' => e = .returned (.int .u8 y0.toNat) ∧ W = w' from fun W => by rw [hy0]; exact bitI false W)
  have HY1 := Lib.hid hy1
  have HY0 := Lib.hid hy0
  clear hy1 hy0
  go_enter Tryz.func180, Tryz.ntmps180
  go_wp2
  go_loopw [8, 17] (fun rv iv wr => ∃ (i : Nat) (vL vM vF : Value), i ≤ t.length ∧ iv = .int .i64 (i : Nat) ∧ SB w wr vL vM vF rv (T.layA (T.svNil kp) (t.take i)).letters (T.layA (T.svNil kp) (t.take i)).more (T.layA (T.svNil kp) (t.take i)).first ((T.layA (T.svNil kp) (t.take i)).rests.map ba)) (fun _ iv _ => t.length - (intOf iv).toNat)
  case atStart => exact ⟨0, _, _, _, Nat.zero_le _, rfl, HSTART.out⟩
  case round =>
    obtain ⟨i, vL, vM, vF, hi, rfl, S⟩ := hrel
    have HS := Lib.hid S
    have hsz := S.size
    clear S
    by_cases hlt : i < t.length
    · obtain ⟨b, off, hA, hb, hbX, Ai, ci, hcell, hci, hcm, -⟩ := (HR.out.below HS.out.below).cell i hlt
      subst hA
      have HSA := Lib.hid (T.sum_at t i hlt)
      have HLA := Lib.hid (T.layA_len (t.take i) (T.svNil kp))
      have HSN := Lib.hid (show T.layA (T.svNil kp) (t.take (i + 1)) = T.layN (T.layA (T.svNil kp) (t.take i)) 0 t[i] by rw [List.take_add_one, List.getElem?_eq_getElem hlt]; exact T.layA_snoc _ _ _)
      have HBR := Lib.hid (show ∀ W, Below w.heap.size w W → Brs W (fun k => w.heap.size ≤ k) Ai t[i].length t[i] from fun W hW => by
        obtain ⟨b', off', hA', -, -, Ai', ci', hcell', -, -, hbr⟩ := (HR.out.below hW).cell i hlt
        injection hA' with e1
        injection e1 with e2 e3
        subst e2 e3
        have h1 : W.cell? ⟨b, off + i, none⟩ = wr.cell? ⟨b, off + i, none⟩ := by
          rw [hW.cell (p := ⟨b, off + i, none⟩) (by show b < w.heap.size; omega), HS.out.below.cell (p := ⟨b, off + i, none⟩) (by show b < w.heap.size; omega)]
        rw [h1, hcell] at hcell'
        injection hcell' with e4
        injection e4 with e5
        rw [e5]; exact hbr)
      obtain ⟨l, hl⟩ : ∃ l, l = t[i] := ⟨_, rfl⟩
      rw [← hl] at hcell hci HSA HSN HBR
      obtain ⟨S0, hS0⟩ : ∃ S0, S0 = T.layA (T.svNil kp) (t.take i) := ⟨_, rfl⟩
      rw [← hS0] at HLA HSN HS
      have HL0 := Lib.hid (show S0.letters.length + l.length ≤ 1000 ∧ S0.more.length + l.length ≤ 1000 ∧ S0.first.length + l.length ≤ 1000 ∧ S0.rests.length + l.length ≤ 1000 by
        obtain ⟨h1, h2, h3, h4⟩ := HLA.out
        have h5 := HSA.out
        have h6 := HSUM.out
        have e1 : (T.svNil kp).letters.length = 0 := rfl
        have e2 : (T.svNil kp).more.length = 0 := rfl
        have e3 : (T.svNil kp).first.length = 0 := rfl
        have e4 : (T.svNil kp).rests.length = 0 := rfl
        exact ⟨by omega, by omega, by omega, by omega⟩)
      have hll : l.length ≤ 1000 := by have := HL0.out.1; omega
      have hx0 : (0 : Int) ≤ (i : Int) := by omega
      have hx1 : (i : Int) < (t.length : Int) := by omega
      clear hl hS0 hcm hbX hci
      go_wp2
      go_loopw [8, 23] (fun rv pv wr => ∃ (p : Nat) (vL vM vF : Value), p ≤ l.length ∧ pv = .int .i64 (p : Nat) ∧ SB w wr vL vM vF rv (T.layN S0 0 (l.take p)).letters (T.layN S0 0 (l.take p)).more (T.layN S0 0 (l.take p)).first ((T.layN S0 0 (l.take p)).rests.map ba)) (fun _ pv _ => l.length - (intOf pv).toNat)
      case atStart => exact ⟨0, _, _, _, Nat.zero_le _, rfl, HS.out⟩
      case round =>
        obtain ⟨p, wL, wM, wF, hp, rfl, S⟩ := hrel
        have HP := Lib.hid S
        have hszp := S.size
        clear S
        by_cases hpl : p < l.length
        · obtain ⟨b2, off2, hA2, hb2, -, hc2⟩ := (HBR.out wr HP.out.below).cell p hpl
          subst hA2
          have hy0 : (0 : Int) ≤ (p : Int) := by omega
          have hy1 : (p : Int) < (l.length : Int) := by omega
          obtain ⟨x0, hx0e⟩ : ∃ x : UInt8, x = if p = 0 then 49 else 48 := ⟨_, rfl⟩
          have HBT := Lib.hid (show ∀ W, Calls Tryz.prog 199 #[.bool ((p : Int) == 0)] W fun e w' => e = .returned (.int .u8 x0.toNat) ∧ W = w' from fun W => by
            have h := bitI ((p : Int) == 0) W
            have e : T.bit ((p : Int) == 0) = x0 := by
              rw [hx0e]; unfold T.bit
              by_cases h0 : p = 0
              · subst h0; rfl
              · rw [if_neg h0, if_neg (by simp; omega)]
            rw [e] at h; exact h)
          have HLN := Lib.hid (T.layN_len (l.take p) S0 0)
          have HSTEP := Lib.hid (show T.layN S0 0 (l.take (p + 1)) = T.layT (T.layN S0 0 (l.take p)) p l[p] by
            rw [List.take_add_one, List.getElem?_eq_getElem hpl]
            show T.layN S0 0 (l.take p ++ [l[p]]) = _
            rw [T.layN_snoc, List.length_take, Nat.zero_add, Nat.min_eq_left (by omega)])
          obtain ⟨S1, hS1⟩ : ∃ S1, S1 = T.layN S0 0 (l.take p) := ⟨_, rfl⟩
          rw [← hS1] at HLN HSTEP HP
          have HL1 := Lib.hid (show S1.letters.length ≤ 1000 ∧ S1.more.length ≤ 1000 ∧ S1.first.length ≤ 1000 ∧ S1.rests.length ≤ 1000 by
            obtain ⟨h1, h2, h3, h4⟩ := HLN.out
            obtain ⟨g1, g2, g3, g4⟩ := HL0.out
            rw [List.length_take] at h1 h2 h3 h4
            omega)
          have HX0 := Lib.hid hx0e
          clear hS1 hx0e
          cases hbk : l[p] with
          | on cc m =>
            rw [hbk] at hc2 HSTEP
            have hc4 : wr.cell? ⟨b2, off2 + p, none⟩ = some (.iface 169 (.agg #[.int .u8 cc.toNat, .int .i64 m])) := hc2
            clear hc2 hbk
            go_wp2_with (go_at_call 242; refine (labOn _ _ _).mono ?_; rintro e w0 ⟨rfl, hb0⟩; have T0 := Lib.hid (HP.out.quiet (Agree.of_below hb0 _) ⟨hb0.os, hb0.tape, hb0.output⟩); clear hb0)
            go_at_call 198
            refine (T0.out.writeL cc HL1.out.1).mono ?_
            rintro e w1 ⟨rfl, v1, s1⟩
            have T1 := Lib.hid s1
            clear s1
            go_wp2_with fail
            go_at_call 199
            refine (HBT.out _).mono ?_
            rintro e w1' ⟨rfl, hw⟩
            subst hw
            go_wp2_with fail
            go_at_call 198
            refine (T1.out.writeF x0 HL1.out.2.2.1).mono ?_
            rintro e w2 ⟨rfl, v2, s2⟩
            have T2 := Lib.hid s2
            clear s2
            go_wp2_with fail
            go_at_call 199
            refine (HT1.out _).mono ?_
            rintro e w1' ⟨rfl, hw⟩
            subst hw
            go_wp2_with fail
            go_at_call 198
            refine (T2.out.writeM y1 HL1.out.2.1 _).mono ?_
            rintro e w3 ⟨rfl, ⟨v3, s3⟩, hbx⟩
            have T3 := Lib.hid s3
            clear s3 hbx
            go_wp2
            go_roundw
            case rel =>
              refine ⟨p + 1, v1, v3, v2, by omega, by go_num, ?_⟩
              rw [HSTEP.out]
              have h := T3.out
              rw [HX0.out, HY1.out] at h
              unfold T.layT T.TB.lab
              simpa using h
            case measure => simp [intOf]; omega
          | en cc r ww =>
            rw [hbk] at hc2 HSTEP
            have hc4 : wr.cell? ⟨b2, off2 + p, none⟩ = some (.iface 171 (.agg #[.int .u8 cc.toNat, .string (ba r), .bool ww])) := hc2
            clear hc2 hbk
            go_wp2_with (go_at_call 243; refine (labEn _ _ _ _).mono ?_; rintro e w0 ⟨rfl, hb0⟩; have T0 := Lib.hid (HP.out.quiet (Agree.of_below hb0 _) ⟨hb0.os, hb0.tape, hb0.output⟩); clear hb0)
            go_at_call 198
            refine (T0.out.writeL cc HL1.out.1).mono ?_
            rintro e w1 ⟨rfl, v1, s1⟩
            have T1 := Lib.hid s1
            clear s1
            go_wp2_with fail
            go_at_call 199
            refine (HBT.out _).mono ?_
            rintro e w1' ⟨rfl, hw⟩
            subst hw
            go_wp2_with fail
            go_at_call 198
            refine (T1.out.writeF x0 HL1.out.2.2.1).mono ?_
            rintro e w2 ⟨rfl, v2, s2⟩
            have T2 := Lib.hid s2
            clear s2
            go_wp2_with fail
            go_at_call 199
            refine (HT0.out _).mono ?_
            rintro e w1' ⟨rfl, hw⟩
            subst hw
            go_wp2_with fail
            go_at_call 198
            refine (T2.out.writeM y0 HL1.out.2.1 _).mono ?_
            rintro e w3 ⟨rfl, ⟨v3, s3⟩, hbx⟩
            have T3 := Lib.hid s3
            have hk1 : w3.cell? ⟨w2.heap.size, 1, none⟩ = some (.string (ba r)) := by rw [cell_of_row _ _ _ _ _ _ hbx]; rfl
            clear s3 hbx
            go_wp2_with (at_builtin; refine app_one rfl (.tmp 46) (.tmp 49) 90 9 _ _ rfl Tryz.underlying90 str_info rfl _ (w.heap.size + 4) _ _ _ rfl (Row.agree T3.out.rs ((Agree.refl _ (fun _ => False)).alloc _) (fun _ _ h => h)) _ _ _ rfl (cell_new _ _ _) rfl (by rw [List.length_map]; have := HL1.out.2.2.2; omega) (by decide) (by have := T3.out.size; simp; omega) ?_; intro v4 w4 hrow hg4; have T4 := Lib.hid ((T3.out.quiet ((Agree.refl _ (fun _ => False)).alloc _) ⟨rfl, rfl, rfl⟩).wR (R' := S1.rests.map ba ++ [ba r]) (by unfold Own; rw [List.length_append, List.map_append]; exact hrow) hg4); clear hrow hg4)
            go_wp2
            go_roundw
            case rel =>
              refine ⟨p + 1, v1, v3, v2, by omega, by go_num, ?_⟩
              rw [HSTEP.out]
              have h := T4.out
              rw [HX0.out, HY0.out] at h
              unfold T.layT T.TB.lab
              simpa using h
            case measure => simp [intOf]; omega
        · have hpe : p = l.length := by omega
          subst hpe
          go_wp2
          go_roundw
          case rel =>
            refine ⟨i + 1, wL, wM, wF, by omega, by go_num, ?_⟩
            rw [HSN.out]
            have h := HP.out
            rw [List.take_length] at h
            exact h
          case measure => simp [intOf]; omega
    · have hie : i = t.length := by omega
      subst hie
      rw [List.take_length] at HS
      have HLA := Lib.hid (T.layA_len t (T.svNil kp))
      have HKP := Lib.hid (show (T.layA (T.svNil kp) t).keep = kp from keep_layA t _)
      obtain ⟨S0, hS0⟩ : ∃ S0, S0 = T.layA (T.svNil kp) t := ⟨_, rfl⟩
      rw [← hS0] at HLA HS HKP ⊢
      have HL0 := Lib.hid (show S0.letters.length ≤ 1000 ∧ S0.more.length ≤ 1000 ∧ S0.first.length ≤ 1000 by
        obtain ⟨h1, h2, h3, h4⟩ := HLA.out
        have h6 := HSUM.out
        have e1 : (T.svNil kp).letters.length = 0 := rfl
        have e2 : (T.svNil kp).more.length = 0 := rfl
        have e3 : (T.svNil kp).first.length = 0 := rfl
        exact ⟨by omega, by omega, by omega⟩)
      have HS0 := Lib.hid hS0
      clear hS0
      go_wp2_with fail
      go_at_call 200
      refine (HS.out.tellL HL0.out.1).mono ?_
      rintro e w1 ⟨rfl, s1⟩
      have T1 := Lib.hid s1
      clear s1
      go_wp2_with fail
      go_at_call 200
      refine (T1.out.tellM HL0.out.2.1).mono ?_
      rintro e w2 ⟨rfl, b2, s2⟩
      have B2 := Lib.hid b2
      have T2 := Lib.hid s2
      clear b2 s2
      go_wp2_with fail
      go_at_call 200
      refine (B2.out.tellF T2.out T1.out.fr HL0.out.2.2).mono ?_
      rintro e w3 ⟨rfl, s3⟩
      have hbR := s3.res
      have hr0 : w3.cell? ⟨w.heap.size, 0, none⟩ = some (.string ⟨#[]⟩) := by rw [cell_of_row _ _ _ _ _ _ hbR]; rfl
      have hr1 : w3.cell? ⟨w.heap.size, 1, none⟩ = some (.string ⟨#[]⟩) := by rw [cell_of_row _ _ _ _ _ _ hbR]; rfl
      have hr2 : w3.cell? ⟨w.heap.size, 2, none⟩ = some (.string ⟨#[]⟩) := by rw [cell_of_row _ _ _ _ _ _ hbR]; rfl
      have hr3 : w3.cell? ⟨w.heap.size, 3, none⟩ = some (.slice none 0 0) := by rw [cell_of_row _ _ _ _ _ _ hbR]; rfl
      have hr4 : w3.cell? ⟨w.heap.size, 4, none⟩ = some (.int .i64 0) := by rw [cell_of_row _ _ _ _ _ _ hbR]; rfl
      have hz0 : w3.frozen? ⟨w.heap.size, 0, none⟩ = false := by rw [frozen_of_row _ _ _ _ _ hbR]
      have hz1 : w3.frozen? ⟨w.heap.size, 1, none⟩ = false := by rw [frozen_of_row _ _ _ _ _ hbR]
      have hz2 : w3.frozen? ⟨w.heap.size, 2, none⟩ = false := by rw [frozen_of_row _ _ _ _ _ hbR]
      have hz3 : w3.frozen? ⟨w.heap.size, 3, none⟩ = false := by rw [frozen_of_row _ _ _ _ _ hbR]
      have hz4 : w3.frozen? ⟨w.heap.size, 4, none⟩ = false := by rw [frozen_of_row _ _ _ _ _ hbR]
      obtain ⟨A3, c3, hv3, hc3, hm3, -⟩ := s3.rs.parts
      obtain ⟨nR, hnR⟩ : ∃ n, n = (S0.rests.map ba).length := ⟨_, rfl⟩
      rw [← hnR] at hv3
      subst hv3
      have T3 := Lib.hid s3
      clear s3 hbR hnR hc3
      go_wp2
      (try simp only [Exit.inBlock, Exit.then])
      have h5 := agree89 w3 w.heap.size (.string (ba S0.letters)) (.string (ba S0.more)) (.string (ba S0.first)) (.slice A3 nR c3) (.int .i64 kp)
      refine bodyPost_ret (v := .agg #[.string (ba S0.letters), .string (ba S0.more), .string (ba S0.first), .slice A3 nR c3, .int .i64 kp]) ?_ rfl ⟨.slice A3 nR c3, by rw [← HS0.out, HKP.out], ?_, ?_⟩
      · exact results_cell_row rfl _ _ w.heap.size 92 _ (0, 0) _ rfl (box_five T3.out.res _ _ _ _ _) Tryz.underlying92 rfl sieve_size
      · rw [← HS0.out]
        exact (T3.out.rs.agree h5 (fun k hk e => by have := (T3.out.rs.lt hk).1; have e' : k = w.heap.size := e; omega)).base (by omega)
      · have hb := T3.out.below
        refine ⟨by rw [os_set, os_set, os_set, os_set, os_set]; exact hb.os, by rw [tape_set, tape_set, tape_set, tape_set, tape_set]; exact hb.tape, by rw [out_set, out_set, out_set, out_set, out_set]; exact hb.output, Nat.le_trans hb.size h5.size, fun k hk => ?_⟩
        rw [h5.block k (by have := hb.size; omega) (fun e => by have e' : k = w.heap.size := e; omega)]
        exact hb.block k hk

end Go.Proofs.YtfhpkcamigkmdaaGreatDoor.W
