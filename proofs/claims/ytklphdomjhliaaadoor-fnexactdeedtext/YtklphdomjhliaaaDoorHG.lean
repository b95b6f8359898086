/-
  Contracts of the program's readDeed.
-/
import Derived.Test.YtklphdomjhliaaaDoorHF
namespace Go.Proofs.YtklphdomjhliaaaDoor.W
open Go.RowKit K R B

theorem deed_info : (Tryd.prog.info? 24).map (·.size) = some 3 := by kernel_rfl
theorem load_deed {w : World} {g : Nat} {x0 x1 x2 : Value} (hg : w.heap[g]? = some (.cells #[x0, x1, x2] 24 (0, 0))) : (loadVar 24 ⟨g, 0, none⟩).run Tryd.prog w = .ok (.agg #[x0, x1, x2]) w :=
  run_loadVar_row w g _ _ _ (0, 0) _ hg Tryd.underlying24 rfl deed_info
/-- what readDeed has in memory -/
structure RdF (w W : World) (g fb db : Nat) (n : ByteArray) (hk hn : Bool) (r : List (List UInt8)) (k : Int) (key : ByteArray) (num : Int) : Prop where
  rrow : W.heap[w.heap.size]? = some (.cells #[.int .i64 0, .string ⟨#[]⟩, .int .i64 0] 24 (0, 0))
  wds : Wds W g r
  frow : W.heap[fb]? = some (.cells #[.string n, .bool hk, .bool hn] 46 (0, 0))
  drow : W.heap[db]? = some (.cells #[.int .i64 k, .string key, .int .i64 num] 24 (0, 0))
  g0 : w.heap.size < g
  gf : g < fb
  fd : fb < db
  bel : Below w.heap.size w W
theorem RdF.lt {w W : World} {g fb db : Nat} {n : ByteArray} {hk hn : Bool} {r : List (List UInt8)} {k : Int} {key : ByteArray} {num : Int} (h : RdF w W g fb db n hk hn r k key num) : db < W.heap.size := (Array.getElem?_eq_some_iff.1 h.drow).1
theorem RdF.grown {w W W' : World} {g fb db : Nat} {n : ByteArray} {hk hn : Bool} {r r' : List (List UInt8)} {k : Int} {key : ByteArray} {num : Int} (h : RdF w W g fb db n hk hn r k key num) (hw : Wds W' g r') (hg : W.grownBy W' (some g)) : RdF w W' g fb db n hk hn r' k key num := by
  have hl := h.lt
  have a := h.g0; have b := h.gf; have c := h.fd
  have hh : ∀ i, i < W.heap.size → i ≠ g → W'.heap[i]? = W.heap[i]? := fun i hi hn => hg.block i hi (fun e => hn (by injection e))
  exact ⟨(hh _ (by omega) (by omega)).trans h.rrow, hw, (hh _ (by omega) (by omega)).trans h.frow, (hh _ (by omega) (by omega)).trans h.drow, a, b, c, h.bel.trans (grown_bW hg (by omega) (by omega))⟩
theorem RdF.below {w W W' : World} {g fb db : Nat} {n : ByteArray} {hk hn : Bool} {r : List (List UInt8)} {k : Int} {key : ByteArray} {num : Int} (h : RdF w W g fb db n hk hn r k key num) (hb : Below W.heap.size W W') : RdF w W' g fb db n hk hn r k key num := by
  have hl := h.lt
  have a := h.g0; have b := h.gf; have c := h.fd
  exact ⟨(hb.block _ (by omega)).trans h.rrow, h.wds.below hb (by omega), (hb.block _ (by omega)).trans h.frow, (hb.block _ (by omega)).trans h.drow, a, b, c, h.bel.trans (hb.mono (by omega))⟩
theorem Wds.other {W : World} {g b i : Nat} {v : Value} {r : List (List UInt8)} (h : Wds W g r) (hb : g < b) : Wds (W.setCell ⟨b, i, none⟩ v) g r := by
  obtain ⟨c, off, cc, h1, h2, h3, h4, h5⟩ := h
  exact ⟨c, off, cc, (heap_setCell_other _ _ _ _ (by show g ≠ b; omega)).trans h1, h2, h3, h4, fun i hi => by rw [World.cell?_of_block (heap_setCell_other W ⟨b, _, none⟩ _ _ (by show c ≠ b; omega))]; exact h5 i hi⟩
theorem RdF.setKey {w W : World} {g fb db : Nat} {n : ByteArray} {hk hn : Bool} {r : List (List UInt8)} {k : Int} {key : ByteArray} {num : Int} (h : RdF w W g fb db n hk hn r k key num) (key2 : ByteArray) : RdF w (W.setCell ⟨db, 1, none⟩ (.string key2)) g fb db n hk hn r k key2 num := by
  have a := h.g0; have b := h.gf; have c := h.fd
  have hs := heap_setCell_same W db 1 _ _ (.string key2) h.drow
  exact ⟨(heap_setCell_other _ _ _ _ (by show w.heap.size ≠ db; omega)).trans h.rrow, h.wds.other (by omega), (heap_setCell_other _ _ _ _ (by show fb ≠ db; omega)).trans h.frow, by rw [hs]; simp, a, b, c, h.bel.setCell (by show w.heap.size ≤ db; omega) _⟩
theorem RdF.setNum {w W : World} {g fb db : Nat} {n : ByteArray} {hk hn : Bool} {r : List (List UInt8)} {k : Int} {key : ByteArray} {num : Int} (h : RdF w W g fb db n hk hn r k key num) (num2 : Int) : RdF w (W.setCell ⟨db, 2, none⟩ (.int .i64 num2)) g fb db n hk hn r k key num2 := by
  have a := h.g0; have b := h.gf; have c := h.fd
  have hs := heap_setCell_same W db 2 _ _ (.int .i64 num2) h.drow
  exact ⟨(heap_setCell_other _ _ _ _ (by show w.heap.size ≠ db; omega)).trans h.rrow, h.wds.other (by omega), (heap_setCell_other _ _ _ _ (by show fb ≠ db; omega)).trans h.frow, by rw [hs]; simp, a, b, c, h.bel.setCell (by show w.heap.size ≤ db; omega) _⟩
/-- the cells that a walk reads -/
theorem RdF.cells {w W : World} {g fb db : Nat} {n : ByteArray} {hk hn : Bool} {r : List (List UInt8)} {k : Int} {key : ByteArray} {num : Int} (h : RdF w W g fb db n hk hn r k key num) :
    W.cell? ⟨fb, 1, none⟩ = some (.bool hk) ∧ W.cell? ⟨fb, 2, none⟩ = some (.bool hn) ∧ (∀ j, W.frozen? ⟨db, j, none⟩ = false) ∧ W.cell? ⟨db, 0, none⟩ = some (.int .i64 k) ∧ W.cell? ⟨db, 1, none⟩ = some (.string key) ∧ W.cell? ⟨db, 2, none⟩ = some (.int .i64 num) ∧
    W.cell? ⟨w.heap.size, 0, none⟩ = some (.int .i64 0) ∧ W.cell? ⟨w.heap.size, 1, none⟩ = some (.string ⟨#[]⟩) ∧ W.cell? ⟨w.heap.size, 2, none⟩ = some (.int .i64 0) ∧ ∀ j, W.frozen? ⟨w.heap.size, j, none⟩ = false := by
  obtain ⟨-, a1, a2⟩ := cells_three h.frow
  obtain ⟨b0, b1, b2⟩ := cells_three h.drow
  obtain ⟨c0, c1, c2⟩ := cells_three h.rrow
  exact ⟨a1, a2, fun j => frozen_of_row W db j _ _ h.drow, b0, b1, b2, c0, c1, c2, fun j => frozen_of_row W w.heap.size j _ _ h.rrow⟩
/-- how a reader ends -/
def ReadV (t : List UInt8) (w : World) (e : Ending) (w' : World) : Prop :=
  ((∃ d, readD t = some d ∧ e = .returned (.agg #[.int .i64 d.kind, .string d.key, .int .i64 d.num])) ∨ readD t = none ∧ e = badV) ∧ Below w.heap.size w w'
theorem readNo {t : List UInt8} (h : parP (splitL 32 t) = none) : readD t = none := by rw [readP, h]
theorem readNe {t : List UInt8} {d : De} (h : parP (splitL 32 t) = some d) (hd : deedL d ≠ t) : readD t = none := by
  rw [readP, h]; simp [hd]
theorem readYes {t : List UInt8} {d : De} (h : parP (splitL 32 t) = some d) (hne : t ≠ []) (hd : deedL d = t) : readD t = some d := by
  rw [readP, h]; simp [hd, hne]

theorem key_le (x : List UInt8) (h : x.length ≤ 100) : (keyQ x).size ≤ 100 := by
  unfold keyQ
  split
  · rw [ofL_size, List.length_drop]; omega
  · rw [ofL_size]; decide
def parR (k : Int) (Q : ByteArray) (r : List (List UInt8)) : Option De := match r with | y :: _ => if (atoiR y).2 = true then some ⟨k, Q, (atoiR y).1⟩ else none | [] => none
theorem opened (w w1 w2 w3 : World) (g : Nat) (hb1 : Below (w.alloc (.cells #[.int .i64 0, .string ⟨#[]⟩, .int .i64 0] 24)).heap.size (w.alloc (.cells #[.int .i64 0, .string ⟨#[]⟩, .int .i64 0] 24)) w1) (hg : w.heap.size + 1 ≤ g) (hg2 : w1.grownBy w2 (some g)) (hb3 : Below w2.heap.size w2 w3) : Below w.heap.size w w3 := by
  have h1 : Below w.heap.size w w1 := ((Below.refl _ _).alloc (Nat.le_refl _) _).trans (hb1.mono (by simp))
  have h2 : Below w.heap.size w w2 := h1.trans (grown_bW hg2 (by omega) h1.size)
  exact h2.trans (hb3.mono h2.size)
theorem opened2 (w w1 w2 w3 : World) (g : Nat) (n : ByteArray) (a b : Bool) (r : List (List UInt8)) (k : Int) (hb1 : Below (w.alloc (.cells #[.int .i64 0, .string ⟨#[]⟩, .int .i64 0] 24)).heap.size (w.alloc (.cells #[.int .i64 0, .string ⟨#[]⟩, .int .i64 0] 24)) w1) (hg : w.heap.size + 1 ≤ g) (hw2 : Wds w2 g r) (hg2 : w1.grownBy w2 (some g)) (hb3 : Below w2.heap.size w2 w3) :
    RdF w ((w3.alloc (.cells #[.string n, .bool a, .bool b] 46)).alloc (.cells #[.int .i64 k, .string ⟨#[]⟩, .int .i64 0] 24)) g w3.heap.size (w3.alloc (.cells #[.string n, .bool a, .bool b] 46)).heap.size n a b r k ⟨#[]⟩ 0 := by
  have hb := opened w w1 w2 w3 g hb1 hg hg2 hb3
  have hgl := hw2.lt
  have s3 := hb3.size
  have s1 := hb1.size
  simp only [World.size_alloc] at s1
  have hbA := ((Below.refl w3.heap.size w3).alloc (Nat.le_refl _) (.cells #[.string n, .bool a, .bool b] 46)).alloc (by simp) (.cells #[.int .i64 k, .string ⟨#[]⟩, .int .i64 0] 24)
  have e0 : w3.heap[w.heap.size]? = some (.cells #[.int .i64 0, .string ⟨#[]⟩, .int .i64 0] 24 (0, 0)) := by
    have s2 := hg2.size
    rw [hb3.block _ (by omega), hg2.block _ (by omega) (fun e => by injection e with e; omega), hb1.block _ (by simp)]
    exact heap_alloc_new _ _
  refine ⟨(hbA.block _ (by omega)).trans e0, (hw2.below hb3 hgl).below hbA (by omega), ?_, heap_alloc_new _ _, by omega, by omega, by simp, hb.trans (hbA.mono (by omega))⟩
  exact (heap_alloc_old _ _ (by simp)).trans (heap_alloc_new _ _)
set_option maxHeartbeats 16000000 in
set_option maxRecDepth 100000 in
/-- a deed is read -/
theorem readI (s : ByteArray) (w : World) (B : Nat) (hs : s.size ≤ 100) (hT : Tab w) (hE : ErrB B w) (hB : B ≤ w.heap.size) :
    Calls Tryd.prog 30 #[.string s] w (ReadV s.data.toList w) := by
  obtain ⟨w0, r, hl⟩ : ∃ w0 r, splitL 32 s.data.toList = w0 :: r := by
    cases h : splitL 32 s.data.toList with
    | nil => exact absurd h (split_ne 32 _ [])
    | cons a b => exact ⟨a, b, rfl⟩
  have hwl : ∀ x ∈ w0 :: r, x.length ≤ 100 := fun x hx => by
    have := split_mem 32 s.data.toList [] x (by have e : splitGo 32 [] s.data.toList = w0 :: r := hl; rw [e]; exact hx)
    rw [len_l] at this; simp at this; omega
  have hne : s.data.toList = [] → w0 = [] := fun e => by
    rw [e] at hl
    have : splitL 32 ([] : List UInt8) = [[]] := rfl
    rw [this] at hl; injection hl with a b; exact a.symm
  have HWO := Lib.hid (fun W => wordsI s W hs)
  rw [hl] at HWO
  have HNX := Lib.hid (fun (W : World) g (h : Wds W g (w0 :: r)) => nextCons W g w0 r h)
  have HKN := Lib.hid (fun W => kindI (ofL w0) W)
  rw [ofL_data] at HKN
  have HT := Lib.hid hT
  have HE := Lib.hid hE
  clear hT hE
  have hcon := mal_concrete
  rcases kind_in w0 with hz | hk
  · have HRN := Lib.hid (readNo (t := s.data.toList) (by rw [hl]; show (if kinB (kindL w0) = true then _ else none) = none; rw [hz]; rfl))
    have HK0 := Lib.hid (show ∀ W, Calls Tryd.prog 39 #[.string (ofL w0)] W fun e w' => e = badV ∧ Below W.heap.size W w' from fun W => (HKN.out W).mono fun e w' h => by
      rcases h.1 with ⟨h1, _⟩ | ⟨_, h2⟩
      · rw [hz] at h1; exact absurd h1 (by decide)
      · exact ⟨h2, h.2⟩)
    clear HKN hz hl hwl hne
    unfold badV at HK0
    go_enter Tryd.func30, Tryd.ntmps30
    go_wp2_with (first
      | (go_at_call 38; refine Calls.mono (HWO.out _) ?_; rintro e w1 ⟨g, rfl, hw, hg, hb1⟩; simp only [World.size_alloc] at hg)
      | (go_at_call 40; refine Calls.mono (HNX.out _ _ hw) ?_; rintro e w2 ⟨rfl, hw2, hg2⟩)
      | (go_at_call 39; refine Calls.mono (HK0.out _) ?_; rintro e w3 ⟨rfl, hb3⟩))
    exact ⟨rfl, .inr ⟨HRN.out, rfl⟩, opened w w1 w2 w3 g hb1 hg hg2 hb3⟩
  · have HKK := Lib.hid (show ∀ W, Calls Tryd.prog 39 #[.string (ofL w0)] W fun e w' => e = .returned (.tuple #[.int .i64 (kindL w0), .agg #[.string (ofL (nmL (kindL w0))), .bool (hkB (kindL w0)), .bool (hnB (kindL w0))]]) ∧ Below W.heap.size W w' from fun W => (HKN.out W).mono fun e w' h => by
      rcases h.1 with ⟨_, h1⟩ | ⟨h2, _⟩
      · exact ⟨h1, h.2⟩
      · rw [h2] at hk; exact absurd hk (by decide))
    have hse : s.data.toList ≠ [] := fun e => by rw [hne e] at hk; exact absurd hk (by decide)
    have HP : Hid (parP (splitL 32 s.data.toList) = parQ (kindL w0) (hkB (kindL w0)) (hnB (kindL w0)) r) := Lib.hid (by rw [hl]; show (if kinB (kindL w0) = true then _ else none) = _; rw [if_pos hk])
    have HDT := Lib.hid (fun (key : ByteArray) (num : Int) (hks : key.size ≤ 100) W (hb : Below w.heap.size w W) => deedI (kindL w0) key num W (by unfold maxLen; omega) (HT.out.on hb))
    have hwr : ∀ x ∈ r, x.length ≤ 100 := fun x hx => hwl x (List.mem_cons_of_mem _ hx)
    have HTL := Lib.hid (ByteArray.toList_eq s)
    obtain ⟨k, hkk⟩ : ∃ k, k = kindL w0 := ⟨_, rfl⟩
    rw [← hkk] at HKK HP HDT
    obtain ⟨n, hnn⟩ : ∃ n, n = ofL (nmL k) := ⟨_, rfl⟩
    rw [← hnn] at HKK
    obtain ⟨a, haa⟩ : ∃ a, a = hkB k := ⟨_, rfl⟩
    obtain ⟨b, hbb⟩ : ∃ b, b = hnB k := ⟨_, rfl⟩
    rw [← haa, ← hbb] at HKK HP
    clear HKN hk hl hwl hne hkk hnn haa hbb
    go_enter Tryd.func30, Tryd.ntmps30
    go_upto_region 4 with (first
      | (go_at_call 38; refine Calls.mono (HWO.out _) ?_; rintro e w1 ⟨g, rfl, hw, hg, hb1⟩; simp only [World.size_alloc] at hg)
      | (go_at_call 40; refine Calls.mono (HNX.out _ _ hw) ?_; rintro e w2 ⟨rfl, hw2, hg2⟩)
      | (go_at_call 39; refine Calls.mono (HKK.out _) ?_; rintro e w3 ⟨rfl, hb3⟩))
    have F := Lib.hid (opened2 w w1 w2 w3 g n a b r k hb1 hg hw2 hg2 hb3)
    obtain ⟨W, hW⟩ : ∃ W, W = (w3.alloc (.cells #[.string n, .bool a, .bool b] 46)).alloc (.cells #[.int .i64 k, .string ⟨#[]⟩, .int .i64 0] 24) := ⟨_, rfl⟩
    rw [← hW] at F ⊢
    obtain ⟨fb, hfb⟩ : ∃ fb, fb = w3.heap.size := ⟨_, rfl⟩
    simp only [World.size_alloc] at F ⊢
    rw [← hfb] at F ⊢
    clear hW hw hb1 hw2 hg2 hb3 hfb HNX HWO HKK
    have hgB : B ≤ g := by have := F.out.g0; omega
    cases a <;> cases b
    ·
      obtain ⟨a1, a2, f0, b0, b1, b2, c0, c1, c2, f1⟩ := F.out.cells
      go_upto_region 8 with fail
      have HDD := Lib.hid (HDT.out ByteArray.empty 0 (by decide) _ F.out.bel)
      by_cases hd : deedL ⟨k, ByteArray.empty, 0⟩ = s.data.toList
      ·
        have HRY := Lib.hid (readYes (HP.out.trans rfl) hse hd)
        have heq : ((ofL (deedL ⟨k, ByteArray.empty, 0⟩)).toList == s.toList) = true := by rw [ByteArray.toList_eq, ofL_data, HTL.out, hd]; simp
        obtain ⟨T, hT⟩ : ∃ T, T = ofL (deedL ⟨k, ByteArray.empty, 0⟩) := ⟨_, rfl⟩
        rw [← hT] at heq HDD
        clear hT hd
        go_wp2_with (go_at_call 9; refine Calls.mono HDD.out ?_; rintro e w9 ⟨rfl, hb9⟩; have F9 := Lib.hid (F.out.below hb9); obtain ⟨-, -, -, b0, b1, b2, c0, c1, c2, f1⟩ := F9.out.cells)
        refine bodyPost_ret (v := .agg #[.int .i64 k, .string ByteArray.empty, .int .i64 0]) ?_ rfl ⟨.inl ⟨_, HRY.out, rfl⟩, ?_⟩
        · exact results_cell_row rfl _ _ w.heap.size 24 _ (0, 0) _ rfl (box_three F9.out.rrow _ _ _) Tryd.underlying24 rfl deed_info
        · exact ((F9.out.bel.setCell (Nat.le_refl _) _).setCell (Nat.le_refl _) _).setCell (Nat.le_refl _) _
      ·
        have HRN := Lib.hid (readNe (HP.out.trans rfl) hd)
        have heq : ((ofL (deedL ⟨k, ByteArray.empty, 0⟩)).toList == s.toList) = false := by rw [ByteArray.toList_eq, ofL_data, HTL.out]; simpa using hd
        obtain ⟨T, hT⟩ : ∃ T, T = ofL (deedL ⟨k, ByteArray.empty, 0⟩) := ⟨_, rfl⟩
        rw [← hT] at heq HDD
        clear hT hd
        go_wp2_with (go_at_call 9; refine Calls.mono HDD.out ?_; rintro e w9 ⟨rfl, hb9⟩; have F9 := Lib.hid (F.out.below hb9); obtain ⟨-, -, -, b0, b1, b2, c0, c1, c2, f1⟩ := F9.out.cells)
        exact ⟨rfl, .inr ⟨HRN.out, rfl⟩, F9.out.bel⟩
    ·
      obtain ⟨a1, a2, f0, b0, b1, b2, c0, c1, c2, f1⟩ := F.out.cells
      cases r with
      | nil =>
        have HRN := Lib.hid (readNo (HP.out.trans rfl))
        have HNU := Lib.hid (numNil _ _ F.out.wds)
        unfold badV at HNU
        go_wp2_with (go_at_call 42; refine Calls.mono HNU.out ?_; rintro e w5 ⟨rfl, rfl⟩)
        exact ⟨rfl, .inr ⟨HRN.out, rfl⟩, F.out.bel⟩
      | cons y r =>
        have HNU := Lib.hid (numCons _ _ B y r F.out.wds (hwr y (by simp)) hgB (HE.out.on (F.out.bel.mono hB)))
        obtain ⟨V, hV⟩ : ∃ V, V = (atoiR y).1 := ⟨_, rfl⟩
        obtain ⟨K, hK⟩ : ∃ K, K = (atoiR y).2 := ⟨_, rfl⟩
        have HP : Hid (parP (splitL 32 s.data.toList) = if K = true then some ⟨k, ByteArray.empty, V⟩ else none) := Lib.hid (HP.out.trans (by rw [hV, hK]; rfl))
        rw [← hV, ← hK] at HNU
        clear hV hK
        cases K with
        | false =>
          have HRN := Lib.hid (readNo (HP.out.trans rfl))
          simp only [Bool.false_eq_true, false_and, true_and, false_or] at HNU
          unfold badV at HNU
          go_wp2_with (go_at_call 42; refine Calls.mono HNU.out ?_; rintro e w5 ⟨rfl, hg5⟩)
          exact ⟨rfl, .inr ⟨HRN.out, rfl⟩, F.out.bel.trans (grown_bW hg5 (by have := F.out.g0; omega) F.out.bel.size)⟩
        | true =>
          simp only [true_and, Bool.true_eq_false, false_and, or_false] at HNU
          go_upto_region 8 with (go_at_call 42; refine Calls.mono HNU.out ?_; rintro e w5 ⟨⟨rfl, hw5⟩, hg5⟩; have F4 := Lib.hid (F.out.grown hw5 hg5); have F5 := Lib.hid (F4.out.setNum V); obtain ⟨-, -, f0, b0, b1, b2, -, -, -, -⟩ := F4.out.cells)
          obtain ⟨W5, hW5⟩ : ∃ W5, W5 = w5.setCell ⟨fb + 1, 2, none⟩ (.int .i64 V) := ⟨_, rfl⟩
          rw [← hW5] at F5 ⊢
          clear hW5 F4 f0 b0 b1 b2 a1 a2 c0 c1 c2 f1 HNU hw5 hg5 F
          obtain ⟨a1, a2, f0, b0, b1, b2, c0, c1, c2, f1⟩ := F5.out.cells
          have HDD := Lib.hid (HDT.out ByteArray.empty V (by decide) _ F5.out.bel)
          by_cases hd : deedL ⟨k, ByteArray.empty, V⟩ = s.data.toList
          ·
            have HRY := Lib.hid (readYes (HP.out.trans rfl) hse hd)
            have heq : ((ofL (deedL ⟨k, ByteArray.empty, V⟩)).toList == s.toList) = true := by rw [ByteArray.toList_eq, ofL_data, HTL.out, hd]; simp
            obtain ⟨T, hT⟩ : ∃ T, T = ofL (deedL ⟨k, ByteArray.empty, V⟩) := ⟨_, rfl⟩
            rw [← hT] at heq HDD
            clear hT hd
            go_wp2_with (go_at_call 9; refine Calls.mono HDD.out ?_; rintro e w9 ⟨rfl, hb9⟩; have F9 := Lib.hid (F5.out.below hb9); obtain ⟨-, -, -, b0, b1, b2, c0, c1, c2, f1⟩ := F9.out.cells)
            refine bodyPost_ret (v := .agg #[.int .i64 k, .string ByteArray.empty, .int .i64 V]) ?_ rfl ⟨.inl ⟨_, HRY.out, rfl⟩, ?_⟩
            · exact results_cell_row rfl _ _ w.heap.size 24 _ (0, 0) _ rfl (box_three F9.out.rrow _ _ _) Tryd.underlying24 rfl deed_info
            · exact ((F9.out.bel.setCell (Nat.le_refl _) _).setCell (Nat.le_refl _) _).setCell (Nat.le_refl _) _
          ·
            have HRN := Lib.hid (readNe (HP.out.trans rfl) hd)
            have heq : ((ofL (deedL ⟨k, ByteArray.empty, V⟩)).toList == s.toList) = false := by rw [ByteArray.toList_eq, ofL_data, HTL.out]; simpa using hd
            obtain ⟨T, hT⟩ : ∃ T, T = ofL (deedL ⟨k, ByteArray.empty, V⟩) := ⟨_, rfl⟩
            rw [← hT] at heq HDD
            clear hT hd
            go_wp2_with (go_at_call 9; refine Calls.mono HDD.out ?_; rintro e w9 ⟨rfl, hb9⟩; have F9 := Lib.hid (F5.out.below hb9); obtain ⟨-, -, -, b0, b1, b2, c0, c1, c2, f1⟩ := F9.out.cells)
            exact ⟨rfl, .inr ⟨HRN.out, rfl⟩, F9.out.bel⟩
    ·
      cases r with
      | nil =>
        have HRN := Lib.hid (readNo (HP.out.trans rfl))
        obtain ⟨a1, a2, f0, b0, b1, b2, c0, c1, c2, f1⟩ := F.out.cells
        have HKY := Lib.hid (keyNil _ _ F.out.wds)
        unfold badV at HKY
        go_wp2_with (go_at_call 41; refine Calls.mono HKY.out ?_; rintro e w4 ⟨rfl, rfl⟩)
        exact ⟨rfl, .inr ⟨HRN.out, rfl⟩, F.out.bel⟩
      | cons x r =>
        have HKY := Lib.hid (keyCons _ _ x r F.out.wds)
        obtain ⟨Q, hQ⟩ : ∃ Q, Q = keyQ x := ⟨_, rfl⟩
        have hQs : Q.size ≤ 100 := by rw [hQ]; exact key_le x (hwr x (by simp))
        have HP : Hid (parP (splitL 32 s.data.toList) = some ⟨k, Q, 0⟩) := Lib.hid (HP.out.trans (by rw [hQ]; rfl))
        rw [← hQ] at HKY
        clear hQ
        obtain ⟨a1, a2, f0, b0, b1, b2, c0, c1, c2, f1⟩ := F.out.cells
        go_upto_region 6 with (go_at_call 41; refine Calls.mono HKY.out ?_; rintro e w4 ⟨rfl, hw4, hg4⟩; have F2 := Lib.hid (F.out.grown hw4 hg4); have F3 := Lib.hid (F2.out.setKey Q); obtain ⟨-, -, f0, b0, b1, b2, -, -, -, -⟩ := F2.out.cells)
        obtain ⟨W3, hW3⟩ : ∃ W3, W3 = w4.setCell ⟨fb + 1, 1, none⟩ (.string Q) := ⟨_, rfl⟩
        rw [← hW3] at F3 ⊢
        clear hW3 F2 f0 b0 b1 b2 a1 a2 c0 c1 c2 f1 HKY hw4 hg4 F
        obtain ⟨a1, a2, f0, b0, b1, b2, c0, c1, c2, f1⟩ := F3.out.cells
        go_upto_region 8 with fail
        have HDD := Lib.hid (HDT.out Q 0 hQs _ F3.out.bel)
        by_cases hd : deedL ⟨k, Q, 0⟩ = s.data.toList
        ·
          have HRY := Lib.hid (readYes (HP.out.trans rfl) hse hd)
          have heq : ((ofL (deedL ⟨k, Q, 0⟩)).toList == s.toList) = true := by rw [ByteArray.toList_eq, ofL_data, HTL.out, hd]; simp
          obtain ⟨T, hT⟩ : ∃ T, T = ofL (deedL ⟨k, Q, 0⟩) := ⟨_, rfl⟩
          rw [← hT] at heq HDD
          clear hT hd
          go_wp2_with (go_at_call 9; refine Calls.mono HDD.out ?_; rintro e w9 ⟨rfl, hb9⟩; have F9 := Lib.hid (F3.out.below hb9); obtain ⟨-, -, -, b0, b1, b2, c0, c1, c2, f1⟩ := F9.out.cells)
          refine bodyPost_ret (v := .agg #[.int .i64 k, .string Q, .int .i64 0]) ?_ rfl ⟨.inl ⟨_, HRY.out, rfl⟩, ?_⟩
          · exact results_cell_row rfl _ _ w.heap.size 24 _ (0, 0) _ rfl (box_three F9.out.rrow _ _ _) Tryd.underlying24 rfl deed_info
          · exact ((F9.out.bel.setCell (Nat.le_refl _) _).setCell (Nat.le_refl _) _).setCell (Nat.le_refl _) _
        ·
          have HRN := Lib.hid (readNe (HP.out.trans rfl) hd)
          have heq : ((ofL (deedL ⟨k, Q, 0⟩)).toList == s.toList) = false := by rw [ByteArray.toList_eq, ofL_data, HTL.out]; simpa using hd
          obtain ⟨T, hT⟩ : ∃ T, T = ofL (deedL ⟨k, Q, 0⟩) := ⟨_, rfl⟩
          rw [← hT] at heq HDD
          clear hT hd
          go_wp2_with (go_at_call 9; refine Calls.mono HDD.out ?_; rintro e w9 ⟨rfl, hb9⟩; have F9 := Lib.hid (F3.out.below hb9); obtain ⟨-, -, -, b0, b1, b2, c0, c1, c2, f1⟩ := F9.out.cells)
          exact ⟨rfl, .inr ⟨HRN.out, rfl⟩, F9.out.bel⟩
    ·
      cases r with
      | nil =>
        have HRN := Lib.hid (readNo (HP.out.trans rfl))
        obtain ⟨a1, a2, f0, b0, b1, b2, c0, c1, c2, f1⟩ := F.out.cells
        have HKY := Lib.hid (keyNil _ _ F.out.wds)
        unfold badV at HKY
        go_wp2_with (go_at_call 41; refine Calls.mono HKY.out ?_; rintro e w4 ⟨rfl, rfl⟩)
        exact ⟨rfl, .inr ⟨HRN.out, rfl⟩, F.out.bel⟩
      | cons x r =>
        have HKY := Lib.hid (keyCons _ _ x r F.out.wds)
        obtain ⟨Q, hQ⟩ : ∃ Q, Q = keyQ x := ⟨_, rfl⟩
        have hQs : Q.size ≤ 100 := by rw [hQ]; exact key_le x (hwr x (by simp))
        have HP : Hid (parP (splitL 32 s.data.toList) = parR k Q r) := Lib.hid (HP.out.trans (by rw [hQ]; cases r <;> rfl))
        rw [← hQ] at HKY
        clear hQ
        obtain ⟨a1, a2, f0, b0, b1, b2, c0, c1, c2, f1⟩ := F.out.cells
        go_upto_region 6 with (go_at_call 41; refine Calls.mono HKY.out ?_; rintro e w4 ⟨rfl, hw4, hg4⟩; have F2 := Lib.hid (F.out.grown hw4 hg4); have F3 := Lib.hid (F2.out.setKey Q); obtain ⟨-, -, f0, b0, b1, b2, -, -, -, -⟩ := F2.out.cells)
        obtain ⟨W3, hW3⟩ : ∃ W3, W3 = w4.setCell ⟨fb + 1, 1, none⟩ (.string Q) := ⟨_, rfl⟩
        rw [← hW3] at F3 ⊢
        clear hW3 F2 f0 b0 b1 b2 a1 a2 c0 c1 c2 f1 HKY hw4 hg4 F
        obtain ⟨a1, a2, f0, b0, b1, b2, c0, c1, c2, f1⟩ := F3.out.cells
        cases r with
        | nil =>
          have HRN := Lib.hid (readNo (HP.out.trans rfl))
          have HNU := Lib.hid (numNil _ _ F3.out.wds)
          unfold badV at HNU
          go_wp2_with (go_at_call 42; refine Calls.mono HNU.out ?_; rintro e w5 ⟨rfl, rfl⟩)
          exact ⟨rfl, .inr ⟨HRN.out, rfl⟩, F3.out.bel⟩
        | cons y r =>
          have HNU := Lib.hid (numCons _ _ B y r F3.out.wds (hwr y (by simp)) hgB (HE.out.on (F3.out.bel.mono hB)))
          obtain ⟨V, hV⟩ : ∃ V, V = (atoiR y).1 := ⟨_, rfl⟩
          obtain ⟨K, hK⟩ : ∃ K, K = (atoiR y).2 := ⟨_, rfl⟩
          have HP : Hid (parP (splitL 32 s.data.toList) = if K = true then some ⟨k, Q, V⟩ else none) := Lib.hid (HP.out.trans (by rw [hV, hK]; rfl))
          rw [← hV, ← hK] at HNU
          clear hV hK
          cases K with
          | false =>
            have HRN := Lib.hid (readNo (HP.out.trans rfl))
            simp only [Bool.false_eq_true, false_and, true_and, false_or] at HNU
            unfold badV at HNU
            go_wp2_with (go_at_call 42; refine Calls.mono HNU.out ?_; rintro e w5 ⟨rfl, hg5⟩)
            exact ⟨rfl, .inr ⟨HRN.out, rfl⟩, F3.out.bel.trans (grown_bW hg5 (by have := F3.out.g0; omega) F3.out.bel.size)⟩
          | true =>
            simp only [true_and, Bool.true_eq_false, false_and, or_false] at HNU
            go_upto_region 8 with (go_at_call 42; refine Calls.mono HNU.out ?_; rintro e w5 ⟨⟨rfl, hw5⟩, hg5⟩; have F4 := Lib.hid (F3.out.grown hw5 hg5); have F5 := Lib.hid (F4.out.setNum V); obtain ⟨-, -, f0, b0, b1, b2, -, -, -, -⟩ := F4.out.cells)
            obtain ⟨W5, hW5⟩ : ∃ W5, W5 = w5.setCell ⟨fb + 1, 2, none⟩ (.int .i64 V) := ⟨_, rfl⟩
            rw [← hW5] at F5 ⊢
            clear hW5 F4 f0 b0 b1 b2 a1 a2 c0 c1 c2 f1 HNU hw5 hg5 F3
            obtain ⟨a1, a2, f0, b0, b1, b2, c0, c1, c2, f1⟩ := F5.out.cells
            have HDD := Lib.hid (HDT.out Q V hQs _ F5.out.bel)
            by_cases hd : deedL ⟨k, Q, V⟩ = s.data.toList
            ·
              have HRY := Lib.hid (readYes (HP.out.trans rfl) hse hd)
              have heq : ((ofL (deedL ⟨k, Q, V⟩)).toList == s.toList) = true := by rw [ByteArray.toList_eq, ofL_data, HTL.out, hd]; simp
              obtain ⟨T, hT⟩ : ∃ T, T = ofL (deedL ⟨k, Q, V⟩) := ⟨_, rfl⟩
              rw [← hT] at heq HDD
              clear hT hd
              go_wp2_with (go_at_call 9; refine Calls.mono HDD.out ?_; rintro e w9 ⟨rfl, hb9⟩; have F9 := Lib.hid (F5.out.below hb9); obtain ⟨-, -, -, b0, b1, b2, c0, c1, c2, f1⟩ := F9.out.cells)
              refine bodyPost_ret (v := .agg #[.int .i64 k, .string Q, .int .i64 V]) ?_ rfl ⟨.inl ⟨_, HRY.out, rfl⟩, ?_⟩
              · exact results_cell_row rfl _ _ w.heap.size 24 _ (0, 0) _ rfl (box_three F9.out.rrow _ _ _) Tryd.underlying24 rfl deed_info
              · exact ((F9.out.bel.setCell (Nat.le_refl _) _).setCell (Nat.le_refl _) _).setCell (Nat.le_refl _) _
            ·
              have HRN := Lib.hid (readNe (HP.out.trans rfl) hd)
              have heq : ((ofL (deedL ⟨k, Q, V⟩)).toList == s.toList) = false := by rw [ByteArray.toList_eq, ofL_data, HTL.out]; simpa using hd
              obtain ⟨T, hT⟩ : ∃ T, T = ofL (deedL ⟨k, Q, V⟩) := ⟨_, rfl⟩
              rw [← hT] at heq HDD
              clear hT hd
              go_wp2_with (go_at_call 9; refine Calls.mono HDD.out ?_; rintro e w9 ⟨rfl, hb9⟩; have F9 := Lib.hid (F5.out.below hb9); obtain ⟨-, -, -, b0, b1, b2, c0, c1, c2, f1⟩ := F9.out.cells)
              exact ⟨rfl, .inr ⟨HRN.out, rfl⟩, F9.out.bel⟩
end Go.Proofs.YtklphdomjhliaaaDoor.W

