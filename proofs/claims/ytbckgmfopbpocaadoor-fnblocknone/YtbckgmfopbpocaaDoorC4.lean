/-
  Contracts of the program's entriesOf and BlockRead.
-/
import Derived.Test.YtbckgmfopbpocaaDoorC3
import Derived.Test.YtbckgmfopbpocaaDoorB9
namespace Go.Proofs.YtbckgmfopbpocaaDoor.W
open Go.RowKit K R B

/-- entries that the runes begin with are those that are read -/
def Reads (l0 : List Int) (acc : List En) (rest : List Int) : Prop :=
  ∀ (es : List En) (t : List UInt8), (∀ e ∈ es, okE e = true) → l0 = rns (runL es ++ 33 :: t) → ∃ m, m ≤ es.length ∧ acc = es.take m ∧ rest = rns (runL (es.drop m) ++ 33 :: t)
theorem reads_start (l : List Int) : Reads l [] l := fun _ _ _ h => ⟨0, Nat.zero_le _, rfl, h⟩
theorem body_head {e : En} (h : okE e = true) (t : List UInt8) : skipB 33 (rns (bodyL e ++ t)) = false := by
  have hn := body_no h (d := 33) (by decide) (by decide) (by decide) (by decide)
  cases hb : bodyL e with
  | nil =>
    exfalso
    have := congrArg List.length hb
    unfold bodyL at this
    simp only [List.length_append, List.length_cons, List.length_nil] at this
    omega
  | cons x r =>
    rw [List.cons_append, rns_cons]
    rw [hb] at hn
    have hx : x ≠ 33 := fun e => hn (by rw [e]; exact List.mem_cons_self ..)
    simp only [skipB, decide_eq_false_iff_not]
    intro e
    exact hx (UInt8.toNat_inj.mp (by have : (33 : UInt8).toNat = 33 := rfl; omega))
theorem reads_end {l0 rest : List Int} {acc : List En} (h : Reads l0 acc rest) (hs : skipB 33 rest = true) (es : List En) (t : List UInt8) (ha : ∀ e ∈ es, okE e = true) (h0 : l0 = rns (runL es ++ 33 :: t)) : acc = es := by
  obtain ⟨m, hm, h1, h2⟩ := h es t ha h0
  cases hd : es.drop m with
  | nil => rw [h1]; exact List.take_of_length_le (by have := List.drop_eq_nil_iff.mp hd; exact this)
  | cons e r =>
    exfalso
    rw [h2, hd, run_cons, show bodyL e ++ 59 :: runL r ++ 33 :: t = bodyL e ++ (59 :: runL r ++ 33 :: t) by simp] at hs
    rw [body_head (ha e (List.mem_of_mem_drop (by rw [hd]; exact List.mem_cons_self ..)))] at hs
    cases hs
theorem reads_step {l0 rest : List Int} {acc : List En} (h : Reads l0 acc rest) (hs : skipB 33 rest = false) (es : List En) (t : List UInt8) (ha : ∀ e ∈ es, okE e = true) (h0 : l0 = rns (runL es ++ 33 :: t)) :
    okR rest = true ∧ ∃ m, m ≤ es.length ∧ acc ++ [entR rest] = es.take m ∧ restR rest = rns (runL (es.drop m) ++ 33 :: t) := by
  obtain ⟨m, hm, h1, h2⟩ := h es t ha h0
  cases hd : es.drop m with
  | nil =>
    exfalso
    rw [h2, hd] at hs
    have : rns (runL [] ++ 33 :: t) = 33 :: rns t := by simp [runL, rns]
    rw [this] at hs
    simp [skipB] at hs
  | cons e r =>
    have hlt : m < es.length := by
      rcases Nat.lt_or_ge m es.length with h | h
      · exact h
      · rw [List.drop_eq_nil_of_le h] at hd; cases hd
    have hde := List.drop_eq_getElem_cons hlt
    rw [hd] at hde
    obtain ⟨he, hr⟩ := List.cons.inj hde
    have hoke : okE e = true := ha e (by rw [he]; exact List.getElem_mem hlt)
    have hrr : rest = rns (bodyL e ++ 59 :: (runL r ++ 33 :: t)) := by rw [h2, hd, run_cons]; simp
    obtain ⟨a1, a2, a3⟩ := ent_rns hoke (runL r ++ 33 :: t)
    rw [← hrr] at a1 a2 a3
    refine ⟨a2, m + 1, hlt, ?_, ?_⟩
    · rw [h1, a1, List.take_succ_eq_append_getElem hlt, ← he]
    · rw [a3, hr]

/-- what entriesOf answers -/
def EntsA (w : World) (l0 : List Int) (e : Ending) (w' : World) : Prop :=
  ∃ (v : Value) (acc : List En) (ok : Bool), e = .returned (.tuple #[v, .bool ok]) ∧ OwnE w' w.heap.size v acc ∧ Below w.heap.size w w' ∧ acc.length ≤ 5000000 ∧ (∀ x ∈ acc, x.key.size ≤ 10000000) ∧
    (∀ (es : List En) (t : List UInt8), (∀ x ∈ es, okE x = true) → l0 = rns (runL es ++ 33 :: t) → ok = true ∧ acc = es) ∧ (l0 = [] → ok = false)

theorem rowGrown' {E : TypeId} {sz : Nat} {w w' : World} {base g n : Nat} {v : Value} {cs : List Value} (h : w.ownsRow base E sz v n cs) (hg : w.grownBy w' (some g)) (hlt : g < base) : w'.ownsRow base E sz v n cs :=
  World.ownsRow.kept h hg (by
    cases e : v.ownBlock with
    | none => exact .inl rfl
    | some k => exact .inr (fun x => by have := (World.ownsRow.lt h k e).1; injection x; omega))
theorem nilE (w : World) (base : Nat) : OwnE w base (.slice none 0 0) [] := World.ownsRow_nil w base _ _

/-- how many runes the scanner at block g has ahead of it -/
def scanLen (w : World) (g : Nat) : Nat := match w.cell? ⟨g, 0, none⟩ with
  | some (.slice _ n _) => n
  | _ => 0
theorem scan_len {w : World} {g : Nat} {l : List Int} (h : Scan w g l) : scanLen w g = l.length := by
  obtain ⟨b, off, c, h1, _⟩ := h
  have c0 : w.cell? ⟨g, 0, none⟩ = some (.slice (some ⟨b, off, none⟩) l.length c) := by rw [cell_of_row _ _ _ _ _ _ h1]; rfl
  unfold scanLen; rw [c0]
/-- at the loop's head -/
structure LoopE (w : World) (g : Nat) (l0 : List Int) (ov : Value) (acc : List En) (rest : List Int) (wr : World) : Prop where
  own : OwnE wr (g + 1) ov acc
  scan : Scan wr g rest
  below : Below w.heap.size w wr
  size : g < wr.heap.size
  len : 2 * acc.length + rest.length ≤ l0.length
  key : ∀ x ∈ acc, x.key.size ≤ 10000000
  reads : Reads l0 acc rest
  none : l0 = [] → rest = []

set_option maxHeartbeats 8000000 in
set_option maxRecDepth 100000 in
/-- the entries ahead of a text's seal -/
theorem entsI (s : ByteArray) (w : World) (hs : s.size ≤ 1900000) (hE : ErrB w.heap.size w) (l0 : List Int) (hl0 : l0.length ≤ s.size) (hrn : Conv.runesFrom s s.size 0 #[] = (l0.map (Value.int .i32)).toArray) :
    Calls Tryd.prog 33 #[.string s] w (EntsA w l0) := by
  have hsz0 : (Conv.runesFrom s s.size 0 #[]).size = l0.length := by rw [hrn]; simp
  have hcv := run_runes_of_string (P := Tryd.prog) w 9 74 21 s Tryd.underlying9 Tryd.underlying74 Tryd.underlying21 (by rw [hsz0]; omega)
  rw [hsz0, hrn] at hcv
  have hcap1 := grownCap_ge w l0.length 0 21
  have hcap2 := grownCap_le_maxLen w l0.length 0 21 (by unfold maxLen; omega)
  generalize hC : grownCap w l0.length 0 21 = C at hcv hcap1 hcap2
  obtain ⟨row, hrow⟩ : ∃ row, row = (l0.map (Value.int .i32)).toArray ++ Array.replicate (C - l0.length) (.int .i32 0) := ⟨_, rfl⟩
  rw [← hrow] at hcv
  obtain ⟨W1, hW1⟩ : ∃ W, W = ((w.alloc (.cells row 21)).alloc (.cells #[.slice (some ⟨w.heap.size, 0, none⟩) l0.length C] 76)).drew := ⟨_, rfl⟩
  have hg : W1.heap.size = w.heap.size + 2 := by rw [hW1]; simp [World.drew]
  have b1 : Below w.heap.size w W1 := by
    rw [hW1]
    exact bel2 (((Below.refl w.heap.size w).alloc (Nat.le_refl _) (.cells row 21)).alloc (by simp) (.cells #[.slice (some ⟨w.heap.size, 0, none⟩) l0.length C] 76)) (by rfl) (by rfl) (by rfl) (by rfl)
  have HS1 := Lib.hid (show Scan W1 (w.heap.size + 1) l0 by
    refine ⟨w.heap.size, 0, C, ?_, by omega, hcap1, hcap2, fun i hi => ?_⟩
    · rw [hW1]
      have := heap_alloc_new (w.alloc (.cells row 21)) (.cells #[.slice (some ⟨w.heap.size, 0, none⟩) l0.length C] 76)
      rw [World.size_alloc] at this
      exact this
    · have hb : W1.heap[w.heap.size]? = some (.cells row 21 (0, 0)) := by
        rw [hW1]
        exact (Below.heap_alloc (w.alloc (.cells row 21)) (.cells #[.slice (some ⟨w.heap.size, 0, none⟩) l0.length C] 76) w.heap.size (by simp)).trans (heap_alloc_new w (.cells row 21))
      rw [cell_of_row _ _ _ _ _ _ hb, hrow]
      simp [Array.getElem?_append, hi])
  have HW1 := Lib.hid hW1
  have HB1 := Lib.hid b1
  have HE := Lib.hid hE
  obtain ⟨g, hgg⟩ : ∃ g, g = w.heap.size + 1 := ⟨_, rfl⟩
  rw [← hgg] at HS1
  have hgw : w.heap.size ≤ g := by omega
  have hgw2 : g < W1.heap.size := by omega
  clear hW1 b1 hC hrow hrn hsz0 hE
  go_enter Tryd.func33, Tryd.ntmps33
  go_wp2_with fail
  rw [← HW1.out, ← hgg]
  clear hgg hg hcv HW1
  go_loopw [5] (fun ov wr => ∃ (acc : List En) (rest : List Int), LoopE w g l0 ov acc rest wr) (fun _ wr => scanLen wr g)
  case atStart => exact ⟨[], l0, ⟨nilE _ _, HS1.out, HB1.out, hgw2, by simp, fun x hx => (by cases hx), reads_start l0, fun h => h⟩⟩
  case round =>
    obtain ⟨acc, rest, hL⟩ := hrel
    have HL := Lib.hid hL
    have hlen := hL.len
    have hgs := hL.size
    have HSK := Lib.hid (skipI wr g rest 33 hL.scan)
    clear hL HS1
    cases hb : skipB 33 rest with
    | true =>
      rw [hb] at HSK
      have HSB := Lib.hid hb
      clear hb
      go_wp2_with (go_at_call 52; refine Calls.mono HSK.out ?_; rintro e w1 ⟨rfl, hs1, hg1⟩; have HG1 := Lib.hid hg1; clear hs1 hg1)
      go_ret2
      refine ⟨_, acc, true, rfl, ownE_base (rowGrown' HL.out.own HG1.out (Nat.lt_succ_self g)) (by omega), HL.out.below.grown HG1.out (by omega) (fun k hk => by injection hk with e; omega), by omega, HL.out.key, fun es t ha h0 => ⟨rfl, reads_end HL.out.reads HSB.out es t ha h0⟩, fun h0 => ?_⟩
      have := HSB.out
      rw [HL.out.none h0] at this
      cases this
    | false =>
      rw [hb] at HSK
      have HSB := Lib.hid hb
      have hskr : skipR 33 rest = rest := by unfold skipR; rw [hb]; rfl
      rw [hskr] at HSK
      have HEN := Lib.hid (show ∀ W, Scan W g rest → ErrB w.heap.size W → Calls Tryd.prog 53 #[.pointer (some ⟨g, 0, none⟩)] W fun e w' => e = .returned (.tuple #[.agg #[.string (entR rest).key, .int .i64 (entR rest).val, .bool (entR rest).gone, .int .i64 (entR rest).time], .bool (okR rest)]) ∧ Scan w' g (restR rest) ∧ W.grownBy w' (some g) from fun W h hE => entryI W g w.heap.size rest h (by omega) (by omega) hE)
      have HKEY := Lib.hid (show (entR rest).key.size ≤ 10000000 by have := key_le rest; unfold entR; show (keyR rest).size ≤ _; omega)
      obtain ⟨E, hEE⟩ : ∃ E, E = entR rest := ⟨_, rfl⟩
      rw [← hEE] at HEN HKEY
      have HEE := Lib.hid hEE
      clear hb hskr hEE
      cases hk : okR rest with
      | false =>
        rw [hk] at HEN
        have HOKF := Lib.hid hk
        clear hk
        go_wp2_with (first
          | (go_at_call 52; refine Calls.mono HSK.out ?_; rintro e w1 ⟨rfl, hs1, hg1⟩; have HS1 := Lib.hid hs1; have HG1 := Lib.hid hg1; have HB1' := Lib.hid (HL.out.below.grown hg1 (by omega) (fun k hk => by injection hk with e; omega)); clear hs1 hg1)
          | (go_at_call 53; refine Calls.mono (HEN.out _ HS1.out (HE.out.on HB1'.out)) ?_; rintro e w2 ⟨rfl, hs2, hg2⟩; have HS2 := Lib.hid hs2; have HB2 := Lib.hid (HB1'.out.grown hg2 HB1'.out.size (fun k hk => by injection hk with e; omega)); clear hs2 hg2))
        go_ret2
        refine ⟨_, [], false, rfl, nilE _ _, HB2.out.alloc HB2.out.size _, by simp, fun x hx => (by cases hx), fun es t ha h0 => ?_, fun _ => rfl⟩
        have := (reads_step HL.out.reads HSB.out es t ha h0).1
        rw [HOKF.out] at this
        cases this
      | true =>
        rw [hk] at HEN
        have HOKT := Lib.hid hk
        have HLT := Lib.hid (rest_lt hk)
        clear hk
        go_wp2_with fail
        go_at_call 52
        refine Calls.mono HSK.out ?_
        rintro e w1 ⟨rfl, hs1, hg1⟩
        have HS1 := Lib.hid hs1
        have HO1 := Lib.hid (rowGrown' HL.out.own hg1 (Nat.lt_succ_self g))
        have HB1' := Lib.hid (HL.out.below.grown hg1 (by omega) (fun k hk => by injection hk with e; omega))
        have hsz1 : g < w1.heap.size := by have := hg1.size; omega
        clear hs1 hg1
        go_wp2_with fail
        go_at_call 53
        refine Calls.mono (HEN.out _ HS1.out (HE.out.on HB1'.out)) ?_
        rintro e w2 ⟨rfl, hs2, hg2⟩
        have HS2 := Lib.hid hs2
        have HO2 := Lib.hid (rowGrown' HO1.out hg2 (Nat.lt_succ_self g))
        have HB2 := Lib.hid (HB1'.out.grown hg2 HB1'.out.size (fun k hk => by injection hk with e; omega))
        have hsz2 : g < w2.heap.size := by have := hg2.size; omega
        clear hs2 hg2
        obtain ⟨W3, hW3⟩ : ∃ W, W = w2.alloc (.cells #[.string E.key, .int .i64 E.val, .bool E.gone, .int .i64 E.time] 43) := ⟨_, rfl⟩
        have bA : Below w2.heap.size w2 W3 := by rw [hW3]; exact (Below.refl _ _).alloc (Nat.le_refl _) _
        have HS3 := Lib.hid (HS2.out.below bA hsz2)
        have HO3 := Lib.hid (rowBelow HO2.out bA)
        have HB3 := Lib.hid (HB2.out.trans (bA.mono HB2.out.size))
        have hsz3 : g < W3.heap.size := by have := bA.size; omega
        obtain ⟨x0, x1, x2, x3, -, -, -, -⟩ := row_four (show W3.heap[w2.heap.size]? = some (.cells #[.string E.key, .int .i64 E.val, .bool E.gone, .int .i64 E.time] 43 (0, 0)) by rw [hW3]; exact heap_alloc_new _ _)
        have HW3 := Lib.hid hW3
        clear hW3 bA
        go_upto_region 5 with fail
        rw [← HW3.out]
        have bB : Below W3.heap.size W3 (W3.alloc (.cells #[.string E.key, .int .i64 E.val, .bool E.gone, .int .i64 E.time] 43)) := (Below.refl _ _).alloc (Nat.le_refl _) _
        have HO4 := Lib.hid (rowBelow HO3.out bB)
        have HS4 := Lib.hid (HS3.out.below bB hsz3)
        have HB4 := Lib.hid (HB3.out.trans (bB.mono HB3.out.size))
        have hsz4 := bB.size
        obtain ⟨y0, y1, y2, y3, -, -, -, -⟩ := row_four (heap_alloc_new W3 (.cells #[.string E.key, .int .i64 E.val, .bool E.gone, .int .i64 E.time] 43))
        clear bB HW3
        go_wp2_with (at_builtin; go_must (refine app_en rfl (.tmp 22) (.tmp 24) rfl (W3.alloc (.cells #[.string E.key, .int .i64 E.val, .bool E.gone, .int .i64 E.time] 43)) (g + 1) _ acc rfl HO4.out W3.heap.size 1 E rfl y0 y1 y2 y3 (by omega) (by omega) ?_); intro vb wb ob gb; have OB := Lib.hid ob; have GB := Lib.hid gb; clear ob gb)
        go_wp2
        have hlt4 := World.ownsRow.lt HO4.out
        have bC : Below (g + 1) (W3.alloc (.cells #[.string E.key, .int .i64 E.val, .bool E.gone, .int .i64 E.time] 43)) wb := (Below.refl _ _).grown GB.out (by omega) (fun k hk => (hlt4 k hk).1)
        have HS5 := Lib.hid (HS4.out.below bC (Nat.lt_succ_self g))
        have HB5 := Lib.hid (HB4.out.trans (bC.mono (by omega)))
        go_roundw
        case rel =>
          refine ⟨acc ++ [E], restR rest, ⟨OB.out, HS5.out, HB5.out, by have := bC.size; omega, by have := HLT.out; rw [List.length_append, List.length_singleton]; omega, ?_, ?_, ?_⟩⟩
          · intro x hx
            rcases List.mem_append.mp hx with hx | hx
            · exact HL.out.key x hx
            · rw [List.mem_singleton.mp hx]; exact HKEY.out
          · intro es t ha h0
            obtain ⟨_, m, h1, h2, h3⟩ := reads_step HL.out.reads HSB.out es t ha h0
            exact ⟨m, h1, by rw [HEE.out]; exact h2, h3⟩
          · intro h0
            have := HOKT.out
            rw [HL.out.none h0] at this
            cases this
        case measure =>
          rw [scan_len HS5.out, scan_len HL.out.scan]
          have := HLT.out
          omega

end Go.Proofs.YtbckgmfopbpocaaDoor.W
