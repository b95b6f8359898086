/-
  The contract of the program's BlockText.
-/
import Derived.Test.YtbckgmfopbpocaaDoorB5
import Derived.Test.YtbckgmfopbpocaaDoorE5
import Derived.Shelf.Strings.Builder1
namespace Go.Proofs.YtbckgmfopbpocaaDoor.W
open Go.RowKit K R B

theorem extra169 : Builder.Extra Tryd.prog Tryd.lays169_ren where
  sizeBuilder := by kernel_rfl
  liesBuilder := by kernel_rfl
  t5 := Tryd.underlying5
  a5 := Tryd.isAgg5
  z5 := Tryd.sizeOf5
  v5 := Tryd.zeroValue5
  infoByte := by kernel_rfl
  cellsByte := by kernel_rfl
  sizeByte := by kernel_rfl
  neB5 := by decide
/-- a builder at block b, of the call's own blocks from B on, holds these bytes -/
def BldB (B b : Nat) (l : List UInt8) (w : World) : Prop := Lib.IsBuilder 47 5 B b (Lib.byteCells l) w
theorem BldB.keep {B b : Nat} {l : List UInt8} {w w' : World} (h : BldB B b l w) (hb : Below w.heap.size w w') : BldB B b l w' := by
  unfold BldB Lib.IsBuilder at *
  have go : ∀ p, Lib.BuilderAt 47 5 B b p (Lib.byteCells l) w → Lib.BuilderAt 47 5 B b p (Lib.byteCells l) w' := by
    rintro p ⟨h1, v, h2, h3, h4⟩
    have hlt : b < w.heap.size := (Array.getElem?_eq_some_iff.1 h2).1
    exact ⟨h1, v, (hb.block b hlt).trans h2, rowBelow h3 hb, h4⟩
  rcases h with h | h
  · exact .inl (go _ h)
  · exact .inr (go _ h)
theorem bldr_size : (Tryd.prog.info? 47).map (·.size) = some 2 := by kernel_rfl
theorem bldr_lies : liesAt Tryd.prog Tryd.prog.depth 47 (2 / Tryd.prog.cellsOf 47) 0 47 1 = true := by kernel_rfl
theorem byte_info : (Tryd.prog.info? 5).map (fun i => (i.zero, i.size, i.bytes)) = some (some (.int .u8 0), 1, 1) := by kernel_rfl
theorem byte_parts : ∃ i, Tryd.prog.info? 5 = some i ∧ i.zero = some (.int .u8 0) ∧ i.size = 1 ∧ i.bytes = 1 := by
  obtain ⟨i, hi, he⟩ := Option.map_eq_some_iff.1 byte_info
  simp only [Prod.mk.injEq] at he
  exact ⟨i, hi, he.1, he.2.1, he.2.2⟩
/-- a builder that is written at block b: its bytes and its block -/
def UsedB (B b : Nat) (l : List UInt8) (w : World) : Prop := Lib.BuilderAt 47 5 B b (.pointer (some ⟨b, 0, none⟩)) (Lib.byteCells l) w

set_option maxRecDepth 100000 in
theorem checkB (B b : Nat) (l : List UInt8) (w : World) (h : BldB B b l w) :
    Calls Tryd.prog 44 #[.pointer (some ⟨b, 0, none⟩)] w fun e w' => e = .returned (.tuple #[]) ∧ UsedB B b l w' ∧ Below B w w' := by
  obtain ⟨j, hj, hjs⟩ := Option.map_eq_some_iff.1 bldr_size
  rcases h with h | h
  · have hc0 := h.cell0
    have hsh := h.shape
    have hfz := h.frozen0
    have hB := h.1
    have h1 := Lib.run_to_unsafe (P := Tryd.prog) w ⟨b, 0, none⟩ Tryd.underlying45 Tryd.underlying85 hj (by rw [hjs]; decide) hsh (Nat.zero_lt_succ 1)
    have h2 : (callFunc 61 #[.pointer (some ⟨b, 0, none⟩)]).run Tryd.prog w = .ok (.value (.pointer (some ⟨b, 0, none⟩))) w := by
      rw [run_callFunc_extern Tryd.func61 (by kernel_rfl) (by kernel_rfl) (by kernel_rfl) (e := Extern.AbiNoEscape.same) (by kernel_rfl), Lib.run_noEscape]
      rfl
    have h3 := Lib.run_from_unsafe (P := Tryd.prog) w ⟨b, 0, none⟩ Tryd.underlying85 Tryd.underlying45 hj hsh bldr_lies
    have HU := Lib.hid (h.used (.pointer (some ⟨b, 0, none⟩)))
    clear h
    go_enter Tryd.func44, Tryd.ntmps44
    go_wp2
    go_end0
    exact ⟨rfl, HU.out, (Below.refl B w).setCell (p := ⟨b, 0, none⟩) hB _⟩
  · have hc0 := h.cell0
    have h1 := Lib.run_neq_ptr_same (P := Tryd.prog) w ⟨b, 0, none⟩ Tryd.underlying45 hj
    have HU := Lib.hid h
    clear h
    go_enter Tryd.func44, Tryd.ntmps44
    go_wp2
    go_end0
    exact ⟨rfl, HU.out, Below.refl _ _⟩

set_option maxHeartbeats 2000000 in
set_option maxRecDepth 100000 in
theorem writeB (B b : Nat) (l m : List UInt8) (w : World) (h : BldB B b l w) (hl : l.length + m.length ≤ 100000) (hB : B ≤ w.heap.size) :
    Calls Tryd.prog 26 #[.pointer (some ⟨b, 0, none⟩), .string (ofL m)] w fun e w' => (∃ x, e = .returned x) ∧ BldB B b (l ++ m) w' ∧ Below B w w' := by
  obtain ⟨i0, hi, hz0, hz1, hz2⟩ := byte_parts
  have HC := Lib.hid (checkB B b l w h)
  obtain ⟨S, hS⟩ : ∃ S, S = ofL m := ⟨_, rfl⟩
  have hSs : S.size = m.length := by rw [hS, ofL_size]
  rw [← hS]
  have HS := Lib.hid hS
  clear h hS
  go_enter Tryd.func26, Tryd.ntmps26
  go_wp2_with (go_at_call 44; refine HC.out.mono ?_)
  rintro e w1 ⟨rfl, hu, hb1⟩
  obtain ⟨hBb, v, hbk, hown, hne⟩ := hu
  have c1 : w1.cell? ⟨b, 1, none⟩ = some v := by rw [Lib.cell_of_heap hbk]; rfl
  have hbl := Lib.byteCells_length l
  go_wp2_with (at_builtin; refine Lib.wpList_append_own_string _ rfl _ _ 22 9 rfl B 5 i0 Tryd.underlying22 Tryd.underlying9 hi hz0 hz1 hz2 _ _ _ rfl hown S rfl ?c3 ?c4 ?c5 ?_)
  case c3 => unfold maxLen; omega
  case c4 => omega
  case c5 => have := hb1.size; omega
  intro v' w2 hown2 hgrow _
  have hlt : b < w1.heap.size := (Array.getElem?_eq_some_iff.1 hbk).1
  have hb2 : w2.heap[b]? = some (.cells #[.pointer (some ⟨b, 0, none⟩), v] 47 (0, 0)) := by
    rw [hgrow.block b hlt (fun e => hne e.symm)]; exact hbk
  have d1 : w2.cell? ⟨b, 1, none⟩ = some v := by rw [Lib.cell_of_heap hb2]; rfl
  have f1 : w2.frozen? ⟨b, 1, none⟩ = false := Lib.frozen_of_heap hb2 1
  obtain ⟨ao, n', cap, rfl⟩ : ∃ ao n' cap, v' = .slice ao n' cap := by
    rcases hown2.2 with ⟨hv, _⟩ | ⟨g, cap, cur, hv, _⟩
    · exact ⟨_, _, _, hv⟩
    · exact ⟨_, _, _, hv⟩
  have HB2 := Lib.hid hb2
  have HOWN := Lib.hid hown2
  have HGR := Lib.hid hgrow
  have HB1 := Lib.hid hb1
  have HOL := Lib.hid hown
  clear hb2 hown2 hgrow hb1 hown
  go_wp2
  go_ret2
  refine ⟨⟨_, rfl⟩, .inr ?_, ?_⟩
  · have e1 : Lib.byteCells (l ++ m) = Lib.byteCells l ++ Lib.strCells S := by rw [Lib.byteCells_append, Lib.strCells_eq, HS.out, ofL_data]
    rw [e1]
    exact Lib.BuilderAt.put hBb HB2.out (bs' := Lib.byteCells l ++ Lib.strCells S) (by rw [List.length_append, Lib.strCells_length, hbl, hSs]; exact HOWN.out) (by decide)
  · exact (HB1.out.grown HGR.out (by have := HB1.out.size; omega) (fun k hk => (HOL.out.lt k hk).1)).setCell (p := ⟨b, 1, none⟩) hBb _
theorem stringB (B b : Nat) (l : List UInt8) (w : World) (h : BldB B b l w) (hB : B ≤ w.heap.size) :
    Calls Tryd.prog 29 #[.pointer (some ⟨b, 0, none⟩)] w fun e w' => e = .returned (.string (ofL l)) ∧ Below B w w' :=
  Any.Builder_String_any Tryd.lays169 extra169 B b l w h hB
theorem run_snocL (l : List En) (k : Nat) (h : k < l.length) : runL (l.take (k + 1)) = runL (l.take k) ++ enL l[k] := by
  rw [List.take_succ_eq_append_getElem h, run_app]
  congr 1
  unfold runL; simp
theorem run_lenk {l : List En} (h : ∀ e ∈ l, okE e = true) (k : Nat) (hk : k ≤ 40) : (runL (l.take k)).length ≤ 520 := by
  have := run_size h k hk
  rwa [ofL_size] at this
theorem en_lenk {e : En} (h : okE e = true) : (enL e).length ≤ 13 := by
  have := en_size h
  rwa [ofL_size] at this

set_option maxHeartbeats 4000000 in
set_option maxRecDepth 100000 in
/-- the program's BlockText -/
theorem blockI (w : World) (B n c : Nat) (A : Option Addr) (l : List En) (hr : Ents w B A n l) (hB : B ≤ w.heap.size) (hn : n ≤ maxLen) (hf : ∀ e ∈ l, e.key.size ≤ maxLen) (hT : Tab w) :
    Calls Tryd.prog 11 #[.slice A n c] w fun e w' => e = .returned (.string (ofL (blockL l))) ∧ Below w.heap.size w w' := by
  have hRO := runI w B n c A l hr hB hn hf
  cases hrun : runB l with
  | false =>
    rw [hrun] at hRO
    have HRO := Lib.hid hRO
    have HB := Lib.hid (show blockL l = [] by unfold blockL; rw [hrun]; rfl)
    clear hRO
    go_enter Tryd.func11, Tryd.ntmps11
    go_wp2_with (go_at_call 17; refine Calls.mono HRO.out ?_; rintro e w2 ⟨rfl, hb2⟩)
    go_ret
    exact ⟨by rw [HB.out]; rfl, hb2⟩
  | true =>
    rw [hrun] at hRO
    have HRO := Lib.hid hRO
    have hlen := hr.len
    subst hlen
    have h40 := (run_iff.mp hrun).1
    have hok := run_all hrun
    have HR := Lib.hid hr
    have HOK := Lib.hid hok
    have HT := Lib.hid hT
    have HBK := Lib.hid (show blockL l = if (textL l).length ≤ 400 then textL l else [] by unfold blockL; rw [hrun]; rfl)
    clear hr hT hRO hf hrun hok
    go_enter Tryd.func11, Tryd.ntmps11
    go_wp2_with (go_at_call 17; refine Calls.mono HRO.out ?_; rintro e w2 ⟨rfl, hb2⟩; have HB2 := Lib.hid hb2; clear hb2)
    obtain ⟨W3, hW3⟩ : ∃ W, W = w2.alloc (.cells #[.pointer none, .slice none 0 0] 47) := ⟨_, rfl⟩
    have HK3 := Lib.hid (show Below w.heap.size w W3 by rw [hW3]; exact HB2.out.alloc HB2.out.size _)
    have HG3 := Lib.hid (show BldB w2.heap.size w2.heap.size [] W3 by rw [hW3]; exact Lib.fresh_isBuilder _ _ w2)
    have hsz2 := HB2.out.size
    have HW3 := Lib.hid hW3
    clear hW3
    rw [← HW3.out]
    go_loopw [12] (fun i wr => ∃ k : Nat, k ≤ l.length ∧ i = .int .i64 (k : Nat) ∧ BldB w2.heap.size w2.heap.size (runL (l.take k)) wr ∧ Below w2.heap.size w2 wr) (fun i _ => l.length - (intOf i).toNat)
    case atStart => exact ⟨0, Nat.zero_le _, rfl, HG3.out, by rw [HW3.out]; exact (Below.refl _ _).alloc (Nat.le_refl _) _⟩
    case round =>
      obtain ⟨k, hk, rfl, hbd, hbl⟩ := hrel
      have HBL := Lib.hid hbl
      have HBD := Lib.hid hbd
      clear hbl hbd HG3
      by_cases hlt : k < l.length
      · obtain ⟨kb, ko, hA, hkb, c0, c1, c2, c3⟩ := HR.out.cell k hlt
        subst hA
        obtain ⟨x0, hx0⟩ : ∃ y, y = l[k].key := ⟨_, rfl⟩
        obtain ⟨x1, hx1⟩ : ∃ y, y = l[k].val := ⟨_, rfl⟩
        obtain ⟨x2, hx2⟩ : ∃ y, y = l[k].gone := ⟨_, rfl⟩
        obtain ⟨x3, hx3⟩ : ∃ y, y = l[k].time := ⟨_, rfl⟩
        rw [← hx0] at c0
        rw [← hx1] at c1
        rw [← hx2] at c2
        rw [← hx3] at c3
        have hkb' : kb < w.heap.size := Nat.lt_of_lt_of_le hkb hB
        have HBA := Lib.hid (HB2.out.trans (HBL.out.mono hsz2))
        have r0 : wr.cell? ⟨kb, ko + k * 4, none⟩ = some (.string x0) := (HBA.out.cell (p := ⟨kb, ko + k * 4, none⟩) hkb').trans c0
        have r1 : wr.cell? ⟨kb, ko + k * 4 + 1, none⟩ = some (.int .i64 x1) := (HBA.out.cell (p := ⟨kb, ko + k * 4 + 1, none⟩) hkb').trans c1
        have r2 : wr.cell? ⟨kb, ko + k * 4 + 2, none⟩ = some (.bool x2) := (HBA.out.cell (p := ⟨kb, ko + k * 4 + 2, none⟩) hkb').trans c2
        have r3 : wr.cell? ⟨kb, ko + k * 4 + 3, none⟩ = some (.int .i64 x3) := (HBA.out.cell (p := ⟨kb, ko + k * 4 + 3, none⟩) hkb').trans c3
        have hokk := HOK.out _ (List.getElem_mem hlt)
        obtain ⟨a1, -, a3, a4, -, a6, a7⟩ := okE_all hokk
        have HE := Lib.hid (show ∀ W, Below w.heap.size w W → Calls Tryd.prog 27 #[.agg #[.string x0, .int .i64 x1, .bool x2, .int .i64 x3]] W fun e w' => e = .returned (.string (ofL (enL l[k]))) ∧ Below W.heap.size W w' from fun W hW => by
          have hE := entI x0 x1 x2 x3 W (by rw [hx0]; exact a1) (by rw [hx1]; exact a3) (by rw [hx1]; omega) (by rw [hx3]; omega) (by rw [hx3]; exact a7) (HT.out.on hW)
          rwa [show (⟨x0, x1, x2, x3⟩ : En) = l[k] by rw [hx0, hx1, hx2, hx3]] at hE)
        have hs1 := run_lenk HOK.out k (by omega)
        have hs2 := en_lenk hokk
        have HSN := Lib.hid (run_snocL l k hlt)
        obtain ⟨O, hO⟩ : ∃ O, O = runL (l.take k) := ⟨_, rfl⟩
        obtain ⟨X, hX⟩ : ∃ X, X = enL l[k] := ⟨_, rfl⟩
        rw [← hO] at hs1 HSN HBD
        rw [← hX] at hs2 HSN HE
        have z0 : (0 : Int) ≤ (k : Int) := by omega
        have z1 : (k : Int) < (l.length : Int) := by omega
        obtain ⟨W5, hW5⟩ : ∃ W, W = wr.alloc (.cells #[.string x0, .int .i64 x1, .bool x2, .int .i64 x3] 43) := ⟨_, rfl⟩
        have HW5 := Lib.hid hW5
        have HB5 := Lib.hid (show Below w2.heap.size w2 W5 by rw [hW5]; exact HBL.out.alloc HBL.out.size _)
        have HG5 := Lib.hid (show BldB w2.heap.size w2.heap.size O W5 by rw [hW5]; exact HBD.out.keep ((Below.refl _ _).alloc (Nat.le_refl _) _))
        have HA5 := Lib.hid (HB2.out.trans (HB5.out.mono hsz2))
        have d0 : W5.cell? ⟨wr.heap.size, 0, none⟩ = some (.string x0) := by rw [hW5, cell_of_row _ _ _ _ _ _ (heap_alloc_new wr _)]; rfl
        have d1 : W5.cell? ⟨wr.heap.size, 1, none⟩ = some (.int .i64 x1) := by rw [hW5, cell_of_row _ _ _ _ _ _ (heap_alloc_new wr _)]; rfl
        have d2 : W5.cell? ⟨wr.heap.size, 2, none⟩ = some (.bool x2) := by rw [hW5, cell_of_row _ _ _ _ _ _ (heap_alloc_new wr _)]; rfl
        have d3 : W5.cell? ⟨wr.heap.size, 3, none⟩ = some (.int .i64 x3) := by rw [hW5, cell_of_row _ _ _ _ _ _ (heap_alloc_new wr _)]; rfl
        clear hO hX hx0 hx1 hx2 hx3 c0 c1 c2 c3 a1 a3 a4 a6 a7 hokk hW5
        go_upto_region 7 with fail
        rw [← HW5.out]
        clear HW3
        go_wp2_with (first
          | (go_at_call 27; refine Calls.mono (HE.out _ HA5.out) ?_; rintro e w6 ⟨rfl, hb6⟩; have HB6 := Lib.hid (HB5.out.trans (hb6.mono HB5.out.size)); have HG6 := Lib.hid (HG5.out.keep hb6); clear hb6)
          | (go_at_call 26; refine Calls.mono (writeB _ _ _ _ _ HG6.out (by omega) HB6.out.size) ?_; rintro e w7 ⟨⟨x9, rfl⟩, hg7, hb7⟩; have HG7 := Lib.hid hg7; have HB7 := Lib.hid (HB6.out.trans hb7); clear hg7 hb7))
        go_roundw
        case rel => exact ⟨k + 1, by omega, by go_num, by rw [HSN.out]; exact HG7.out, HB7.out⟩
        case measure => simp [intOf]; omega
      · have hke : l.take k = l := List.take_of_length_le (by omega)
        rw [hke] at HBD
        have hrl := run_leng HOK.out
        have htx : (textL l).length ≤ 1000 := by
          unfold textL sealL
          rw [List.length_append, List.length_cons]
          have := dec_len4 (Nat.lt_trans (sum_lt (runL l)) (by decide : 9973 < 10000))
          omega
        have HSE := Lib.hid (show ∀ W, Below w.heap.size w W → Calls Tryd.prog 28 #[.string (ofL (runL l))] W fun e w' => e = .returned (.string (ofL (textL l))) ∧ Below W.heap.size W w' from fun W hW => sealI (runL l) W (by omega) (HT.out.on hW))
        obtain ⟨T, hTT⟩ : ∃ T, T = ofL (textL l) := ⟨_, rfl⟩
        have HST := Lib.hid (stringB _ _ (runL l) wr HBD.out HBL.out.size)
        obtain ⟨X, hX⟩ : ∃ X, X = ofL (runL l) := ⟨_, rfl⟩
        rw [← hTT, ← hX] at HSE
        rw [← hX] at HST
        have hTs : T.size = (textL l).length := by rw [hTT, ofL_size]
        have HTT := Lib.hid hTT
        obtain ⟨m, hm⟩ : ∃ m, m = (textL l).length := ⟨_, rfl⟩
        rw [← hm] at hTs htx HBK
        have hlt2 : ¬ ((k : Int) < (l.length : Int)) := by omega
        clear hTT hX hrl hm hke HW3 HOK HRO
        by_cases h4 : m ≤ 400
        · rw [if_pos h4] at HBK
          have h5 : ¬ (400 : Int) < (T.size : Int) := by omega
          go_wp2_with (first
            | (go_at_call 29; refine Calls.mono HST.out ?_; rintro e w8 ⟨rfl, hb8⟩; have HB8 := Lib.hid (HB2.out.trans ((HBL.out.trans hb8).mono hsz2)); clear hb8)
            | (go_at_call 28; refine Calls.mono (HSE.out _ HB8.out) ?_; rintro e w9 ⟨rfl, hb9⟩; have HB9 := Lib.hid (HB8.out.trans (hb9.mono HB8.out.size)); clear hb9))
          go_ret
          exact ⟨by rw [HBK.out, ← HTT.out]; rfl, HB9.out⟩
        · rw [if_neg h4] at HBK
          have h5 : (400 : Int) < (T.size : Int) := by omega
          go_wp2_with (first
            | (go_at_call 29; refine Calls.mono HST.out ?_; rintro e w8 ⟨rfl, hb8⟩; have HB8 := Lib.hid (HB2.out.trans ((HBL.out.trans hb8).mono hsz2)); clear hb8)
            | (go_at_call 28; refine Calls.mono (HSE.out _ HB8.out) ?_; rintro e w9 ⟨rfl, hb9⟩; have HB9 := Lib.hid (HB8.out.trans (hb9.mono HB8.out.size)); clear hb9))
          go_ret
          exact ⟨by rw [HBK.out]; rfl, HB9.out⟩

end Go.Proofs.YtbckgmfopbpocaaDoor.W
