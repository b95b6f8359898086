/-
  Contract of the model's SieveOf: the filter of a key list.
-/
import Derived.Test.YtakadkhgcjndmaaV10
import Derived.Test.YtakadkhgcjndmaaV11
namespace Go.Proofs.Ytakadkhgcjndmaa.W
open Go.RowKit K

/-- no filter -/
def NoSv (w : World) (e : Ending) (w' : World) : Prop :=
  e = .returned (.tuple #[.agg #[.string ⟨#[]⟩, .string ⟨#[]⟩, .string ⟨#[]⟩, .slice none 0 0, .int .i64 0], .bool false]) ∧ Below w.heap.size w w'

set_option maxRecDepth 8000 in
set_option maxHeartbeats 4000000 in
theorem ofYes (w : World) (n c : Nat) (A : Option Addr) (l : List ByteArray) (kp : Nat) (hr : Strs w w.heap.size A n l) (hnc : n ≤ c) (hc : c ≤ maxLen) (hf : Fit l) (hk1 : keysB l = true) (hkp : kp ≤ 5) :
    Calls Try.prog 29 #[.slice A n c, .int .i64 kp] w (OfR w (ls l) kp) := by
  have hlen := hr.len
  subst hlen
  have HR := Lib.hid hr
  have hn : l.length ≤ maxLen := Nat.le_trans hnc hc
  have HKY := Lib.hid (show ∀ W : World, W.heap = (w.alloc (.cells #[.string ⟨#[]⟩, .string ⟨#[]⟩, .string ⟨#[]⟩, .slice none 0 0, .int .i64 0] 27)).heap → Calls Try.prog 72 #[.slice A l.length c] W fun e w' => e = .returned (.bool true) ∧ Same W w' from fun W hW => by
    have h1 := keysS W w.heap.size l.length c A l ((hr.below ((Below.refl _ _).alloc (Nat.le_refl _) _) (Nat.le_refl _)).heap hW) hn hf
    rw [hk1] at h1; exact h1)
  have HIN := Lib.hid (show ∀ W : World, Calls Try.prog 73 #[.int .i64 kp, .int .i64 0, .int .i64 5] W fun e w' => e = .returned (.bool true) ∧ W = w' from fun W => by
    have h1 := inS kp 0 5 W
    have h2 : inB kp 0 5 = true := by unfold inB; exact decide_eq_true ⟨by omega, by omega⟩
    rw [h2] at h1; exact h1)
  have HKL := Lib.hid (keyL_of hk1)
  have h24 := (keys_iff.mp hk1).1
  clear hr hf hk1
  go_enter Try.func29, Try.ntmps29
  go_wp2_with fail
  go_at_call 72
  refine Calls.mono (HKY.out _ (by rfl)) ?_
  rintro e w1 ⟨rfl, m1, rfl⟩
  go_wp2_with (go_at_call 73; refine (HIN.out _).mono ?_; rintro e w2 ⟨rfl, rfl⟩)
  go_loopg [7] (T.loads (fk [(l, 0)])) (fun g forks wr => ∃ N q es L M F v R A' c', T.loads (fk q) ≤ g ∧ OfP w (ls l) kp forks wr N q es L M F v R A' c')
  case atStart => exact ⟨[], [(l, 0)], [(.slice A l.length c, 0)], _, _, _, _, _, _, _, Nat.le_refl _, of_start HKL.out HR.out hnc hc m1 _ rfl rfl⟩
  case round =>
    obtain ⟨N, q, es, L, M, F, v, R, A', c', hg, P⟩ := hrel
    have hval := P.val
    subst hval
    have hcap := P.cap
    unfold maxLen at hcap
    have hbS := P.boxS
    have hbR := P.boxR
    have hs0 : wr.cell? ⟨w.heap.size + 2, 0, none⟩ = some (.string L) := by rw [cell_of_row _ _ _ _ _ _ hbS]; rfl
    have hs1 : wr.cell? ⟨w.heap.size + 2, 1, none⟩ = some (.string M) := by rw [cell_of_row _ _ _ _ _ _ hbS]; rfl
    have hs2 : wr.cell? ⟨w.heap.size + 2, 2, none⟩ = some (.string F) := by rw [cell_of_row _ _ _ _ _ _ hbS]; rfl
    have hs3 : wr.cell? ⟨w.heap.size + 2, 3, none⟩ = some v := by rw [cell_of_row _ _ _ _ _ _ hbS]; rfl
    have hs4 : wr.cell? ⟨w.heap.size + 2, 4, none⟩ = some (.int .i64 kp) := by rw [cell_of_row _ _ _ _ _ _ hbS]; rfl
    cases es with
    | nil =>
      have hq0 : q = [] := List.eq_nil_of_length_eq_zero P.held.1.symm
      subst hq0
      have hr0 : wr.cell? ⟨w.heap.size, 0, none⟩ = some (.string ⟨#[]⟩) := by rw [cell_of_row _ _ _ _ _ _ hbR]; rfl
      have hr1 : wr.cell? ⟨w.heap.size, 1, none⟩ = some (.string ⟨#[]⟩) := by rw [cell_of_row _ _ _ _ _ _ hbR]; rfl
      have hr2 : wr.cell? ⟨w.heap.size, 2, none⟩ = some (.string ⟨#[]⟩) := by rw [cell_of_row _ _ _ _ _ _ hbR]; rfl
      have hr3 : wr.cell? ⟨w.heap.size, 3, none⟩ = some (.slice none 0 0) := by rw [cell_of_row _ _ _ _ _ _ hbR]; rfl
      have hr4 : wr.cell? ⟨w.heap.size, 4, none⟩ = some (.int .i64 0) := by rw [cell_of_row _ _ _ _ _ _ hbR]; rfl
      have hz0 : wr.frozen? ⟨w.heap.size, 0, none⟩ = false := by rw [frozen_of_row _ _ _ _ _ hbR]
      have hz1 : wr.frozen? ⟨w.heap.size, 1, none⟩ = false := by rw [frozen_of_row _ _ _ _ _ hbR]
      have hz2 : wr.frozen? ⟨w.heap.size, 2, none⟩ = false := by rw [frozen_of_row _ _ _ _ _ hbR]
      have hz3 : wr.frozen? ⟨w.heap.size, 3, none⟩ = false := by rw [frozen_of_row _ _ _ _ _ hbR]
      have hz4 : wr.frozen? ⟨w.heap.size, 4, none⟩ = false := by rw [frozen_of_row _ _ _ _ _ hbR]
      obtain ⟨A3, c3, hv3, hc3, hm3, -⟩ := P.own.parts
      subst hv3
      have HP := Lib.hid P
      have HBR := Lib.hid hbR
      clear hbS hbR P
      go_wp2
      (try simp only [Exit.inBlock, Exit.then])
      refine bodyPost_ret (v := .tuple #[.agg #[.string L, .string M, .string F, .slice A3 R.length c3, .int .i64 kp], .bool true]) ?_ rfl (of_end HP.out _ _ _ _ _ _ rfl)
      exact ret_pair rfl _ _ w.heap.size _ _ rfl rfl (load_sieve (box_five HBR.out _ _ _ _ _))
    | cons e es =>
      obtain ⟨x, q', hq⟩ : ∃ x q', q = x :: q' := by
        cases q with
        | nil => have := P.held.1; simp at this
        | cons a b => exact ⟨a, b, rfl⟩
      subst hq
      obtain ⟨hd5, he2, hx24, hL, hM, hF, hR, hesl, Ax, nx, cx, he1, hc1, hc2, hnx, hput⟩ := of_put P HKL.out h24
      obtain ⟨b, off, hA1, hbb, hxb, hcell1, hcell2⟩ := P.fs.cell 0 (by simp)
      subst hA1
      simp only [List.getElem_cons_zero, Nat.mul_zero, Nat.add_zero] at hcell1 hcell2
      rw [he1] at hcell1
      rw [he2] at hcell2
      have HP := Lib.hid P
      have hlenp : (0 : Int) < ((e :: es).length : Int) := by simp only [List.length_cons]; omega
      obtain ⟨n1, hn1⟩ : ∃ n1, n1 = (e :: es).length := ⟨_, rfl⟩
      rw [← hn1] at hlenp hcap ⊢
      have HN1 := Lib.hid hn1
      have hn1p : 0 < n1 := by rw [hn1]; simp
      have HBS := Lib.hid hbS
      have HPUT := Lib.hid (show ∀ W : World, Agree wr W (fun _ => False) → Calls Try.prog 74 #[.agg #[.string L, .string M, .string F, v, .int .i64 kp], .agg #[.slice Ax nx cx, .int .i64 x.2]] W (PutR3 W (w.heap.size + 1) v L M F R x.1 kp x.2) from fun W hW => by
        have h1 := hput W hW
        have hsb := (Array.getElem?_eq_some_iff.1 HBS.out).1
        exact putF W (w.heap.size + 1) v L M F R x.1 kp x.2 Ax nx cx h1.2 (by have := hW.size; omega) h1.1 hc1 hc2 (by omega) (by omega) (by omega) (by omega) (by omega) (by omega) (by omega))
      clear hbS hbR P hput hn1 he1 he2
      have hsb := (Array.getElem?_eq_some_iff.1 HBS.out).1
      have hbS7 : (wr.alloc (.cells #[] 72)).heap[w.heap.size + 2]? = some (.cells #[.string L, .string M, .string F, v, .int .i64 kp] 27 (0, 0)) := by rw [Below.heap_alloc _ _ _ hsb]; exact HBS.out
      have k0 : (wr.alloc (.cells #[] 72)).cell? ⟨w.heap.size + 2, 0, none⟩ = some (.string L) := by rw [cell_of_row _ _ _ _ _ _ hbS7]; rfl
      have k1 : (wr.alloc (.cells #[] 72)).cell? ⟨w.heap.size + 2, 1, none⟩ = some (.string M) := by rw [cell_of_row _ _ _ _ _ _ hbS7]; rfl
      have k2 : (wr.alloc (.cells #[] 72)).cell? ⟨w.heap.size + 2, 2, none⟩ = some (.string F) := by rw [cell_of_row _ _ _ _ _ _ hbS7]; rfl
      have k3 : (wr.alloc (.cells #[] 72)).cell? ⟨w.heap.size + 2, 3, none⟩ = some v := by rw [cell_of_row _ _ _ _ _ _ hbS7]; rfl
      have k4 : (wr.alloc (.cells #[] 72)).cell? ⟨w.heap.size + 2, 4, none⟩ = some (.int .i64 kp) := by rw [cell_of_row _ _ _ _ _ _ hbS7]; rfl
      have k5 : (wr.alloc (.cells #[] 72)).cell? ⟨b, off, none⟩ = some (.slice Ax nx cx) := by rw [World.cell?_of_block (w := wr) (a := ⟨b, off, none⟩) (Below.heap_alloc _ _ _ hbb)]; exact hcell1
      have k6 : (wr.alloc (.cells #[] 72)).cell? ⟨b, off + 1, none⟩ = some (.int .i64 x.2) := by rw [World.cell?_of_block (w := wr) (a := ⟨b, off + 1, none⟩) (Below.heap_alloc _ _ _ hbb)]; exact hcell2
      have HAG := Lib.hid (agree7 wr (.cells #[] 72))
      clear hcell1 hcell2 hbS7
      go_wp2_with fail
      go_cut [8] from 24 to 41 (fun s8 wx => OfC w ((wr.alloc (.cells #[] 72)).drew) v L M F R x kp s8 wx)
      case first =>
        go_region_with (go_at_call 74; refine Calls.mono (HPUT.out _ (by exact HAG.out)) ?_; rintro e w8 ⟨L', M', F', v', R', vn, esn, qn, rfl, hsv, hown, hofn, hheld, hfk, hap, hg8⟩; obtain ⟨A3, c3, hv3, -, -, -⟩ := hown.parts; subst hv3; have h8 := of_box8 HP.out HAG.out hg8; have j0 : w8.cell? ⟨w.heap.size + 2, 0, none⟩ = some (.string L) := (by rw [cell_of_row _ _ _ _ _ _ h8]; rfl); have j1 : w8.cell? ⟨w.heap.size + 2, 1, none⟩ = some (.string M) := (by rw [cell_of_row _ _ _ _ _ _ h8]; rfl); have j2 : w8.cell? ⟨w.heap.size + 2, 2, none⟩ = some (.string F) := (by rw [cell_of_row _ _ _ _ _ _ h8]; rfl); have j3 : w8.cell? ⟨w.heap.size + 2, 3, none⟩ = some v := (by rw [cell_of_row _ _ _ _ _ _ h8]; rfl); have j4 : w8.cell? ⟨w.heap.size + 2, 4, none⟩ = some (.int .i64 kp) := (by rw [cell_of_row _ _ _ _ _ _ h8]; rfl); have z0 : w8.frozen? ⟨w.heap.size + 2, 0, none⟩ = false := (by rw [frozen_of_row _ _ _ _ _ h8]); have z1 : w8.frozen? ⟨w.heap.size + 2, 1, none⟩ = false := (by rw [frozen_of_row _ _ _ _ _ h8]); have z2 : w8.frozen? ⟨w.heap.size + 2, 2, none⟩ = false := (by rw [frozen_of_row _ _ _ _ _ h8]); have z3 : w8.frozen? ⟨w.heap.size + 2, 3, none⟩ = false := (by rw [frozen_of_row _ _ _ _ _ h8]); have z4 : w8.frozen? ⟨w.heap.size + 2, 4, none⟩ = false := (by rw [frozen_of_row _ _ _ _ _ h8]); have E1 := Lib.hid hsv; have E2 := Lib.hid hown; have E3 := Lib.hid hofn; have E4 := Lib.hid hheld; have E5 := Lib.hid hfk; have E6 := Lib.hid hg8; clear hsv hown hofn hheld hfk hap hg8 h8)
        all_goals
          go_wp2_with fail
          go_meet
          exact ⟨L', M', F', _, R', esn, qn, w8, E1.out, E2.out, E3.out, E4.out, E5.out, E6.out, rfl⟩
      case rest =>
        obtain ⟨L', M', F', v', R', esn, qn, w8, hsv, hown, hofn, hheld, hfk, hg8, hwc⟩ := hcut
        obtain ⟨An, cn, hvn, -, -⟩ := hofn.parts
        subst hvn
        have hsz9 : wc.heap.size = w8.heap.size := by rw [hwc]; simp
        obtain ⟨r1, r2, r3⟩ := of_rows HP.out HAG.out hofn hg8 (show Agree w8 wc (fun k => k = w.heap.size + 2) by rw [hwc]; exact agree89 _ _ _ _ _ _ _) hsz9
        rw [← hsz9] at r1 r3
        have hen : esn.length ≤ 24 := by
          have h1 := hheld.1
          have h2 := congrArg List.length hfk
          unfold fk at h2
          rw [List.length_map] at h2
          have h3 := leads_len x.2 (T.brs x.2 (ls x.1))
          have h4 := T.brs_len x.2 (ls x.1).length (ls x.1) (Nat.le_refl _)
          have h5 : (ls x.1).length = x.1.length := by unfold ls; rw [List.length_map]
          omega
        have hes : es.length = n1 - 1 := by have := HN1.out; simp only [List.length_cons] at this; omega
        rw [hes] at r2
        have R1 := Lib.hid r1
        have R2a := Lib.hid r2
        have R3 := Lib.hid r3
        have ONE1 := Lib.hid HP.out.held.tail.one
        have ONE2 := Lib.hid hheld.one
        have ESL := Lib.hid (show n1 - 1 ≤ 1000 by rw [← hes]; exact hesl)
        have ENL := Lib.hid hen
        have HES := Lib.hid hes
        have E1 := Lib.hid hsv
        have E2 := Lib.hid hown
        have E4 := Lib.hid hheld
        have E5 := Lib.hid hfk
        have E6 := Lib.hid hg8
        have EW := Lib.hid hwc
        have hgx := hg
        clear r1 r2 r3 hsv hown hofn hheld hfk hg8 hwc hsz9 hen hes hesl k0 k1 k2 k3 k4 k5 k6 hs0 hs1 hs2 hs3 hs4
        by_cases hcc : c' = 1
        · have R2 := Lib.hid (show FS (wc.alloc (.cells #[] 72)) (fun _ => False) (some ⟨b, off, none⟩) (n1 - 1) es by
            have h0 : n1 - 1 = 0 := by omega
            have h1 : es = [] := List.eq_nil_of_length_eq_zero (by rw [HES.out]; exact h0)
            rw [h0, h1]; exact FS.nil _ _ _)
          go_wp2_with (first
            | (at_builtin; refine app_forks rfl (.tmp 36) (.tmp 38) rfl _ wc.heap.size _ [] rfl R1.out (fun _ => False) (n1 - 1) _ _ es rfl R2.out ONE1.out (by have := ESL.out; simp only [List.length_nil]; omega) (by simp) ?_; intro v1 w11 ho1 hg11; have G11 := Lib.hid hg11; have O11 := Lib.hid ho1; have F11 := Lib.hid (R3.out w11 v1 hg11 An cn rfl); have hs11 := hg11.grown.size; simp only [World.size_alloc] at hs11; clear ho1 hg11)
            | (at_builtin; refine app_forks rfl (.tmp 39) (.tmp 40) rfl _ wc.heap.size _ ([] ++ es) rfl O11.out (fun _ => False) esn.length cn An esn rfl F11.out ONE2.out (by have := ESL.out; have := ENL.out; have := HES.out; simp only [List.nil_append]; omega) (by omega) ?_; intro v2 w12 ho2 hg12; have O12 := Lib.hid ho2; have G12 := Lib.hid hg12; clear ho2 hg12))
          have HST := Lib.hid (of_step HP.out HAG.out rfl rfl rfl E1.out E2.out E4.out E5.out E6.out EW.out (v0 := .slice (some ⟨wc.heap.size, 0, none⟩) 0 0) (fun k hk => Nat.le_of_eq (by simpa [Value.ownBlock] using hk)) G11.out (by have h := O12.out; rw [List.nil_append] at h; exact h) G12.out)
          go_roundg (T.loads (fk (q' ++ qn)))
          case measure =>
            obtain ⟨A2, c2, -, -, hlt⟩ := HST.out
            omega
          case rel =>
            obtain ⟨A2, c2, -, hP2, -⟩ := HST.out
            exact ⟨_, _, _, _, _, _, _, _, _, _, Nat.le_refl _, hP2⟩
        · have R2 := R2a
          go_wp2_with (first
            | (at_builtin; refine app_forks rfl (.tmp 36) (.tmp 38) rfl _ wc.heap.size _ [] rfl R1.out (fun _ => False) (n1 - 1) _ _ es rfl R2.out ONE1.out (by have := ESL.out; simp only [List.length_nil]; omega) (by simp) ?_; intro v1 w11 ho1 hg11; have G11 := Lib.hid hg11; have O11 := Lib.hid ho1; have F11 := Lib.hid (R3.out w11 v1 hg11 An cn rfl); have hs11 := hg11.grown.size; simp only [World.size_alloc] at hs11; clear ho1 hg11)
            | (at_builtin; refine app_forks rfl (.tmp 39) (.tmp 40) rfl _ wc.heap.size _ ([] ++ es) rfl O11.out (fun _ => False) esn.length cn An esn rfl F11.out ONE2.out (by have := ESL.out; have := ENL.out; have := HES.out; simp only [List.nil_append]; omega) (by omega) ?_; intro v2 w12 ho2 hg12; have O12 := Lib.hid ho2; have G12 := Lib.hid hg12; clear ho2 hg12))
          have HST := Lib.hid (of_step HP.out HAG.out rfl rfl rfl E1.out E2.out E4.out E5.out E6.out EW.out (v0 := .slice (some ⟨wc.heap.size, 0, none⟩) 0 0) (fun k hk => Nat.le_of_eq (by simpa [Value.ownBlock] using hk)) G11.out (by have h := O12.out; rw [List.nil_append] at h; exact h) G12.out)
          go_roundg (T.loads (fk (q' ++ qn)))
          case measure =>
            obtain ⟨A2, c2, -, -, hlt⟩ := HST.out
            omega
          case rel =>
            obtain ⟨A2, c2, -, hP2, -⟩ := HST.out
            exact ⟨_, _, _, _, _, _, _, _, _, _, Nat.le_refl _, hP2⟩

theorem no_box (w : World) (m : Nat) : ((w.alloc (.cells #[.string ⟨#[]⟩, .string ⟨#[]⟩, .string ⟨#[]⟩, .slice none 0 0, .int .i64 0] 27)).drewN m).heap[w.heap.size]? = some (.cells #[.string ⟨#[]⟩, .string ⟨#[]⟩, .string ⟨#[]⟩, .slice none 0 0, .int .i64 0] 27 (0, 0)) := heap_alloc_new w _
theorem no_below (w : World) (m : Nat) (x0 x1 x2 x3 x4 : Value) : Below w.heap.size w (((((((w.alloc (.cells #[.string ⟨#[]⟩, .string ⟨#[]⟩, .string ⟨#[]⟩, .slice none 0 0, .int .i64 0] 27)).drewN m).setCell ⟨w.heap.size, 0, none⟩ x0).setCell ⟨w.heap.size, 1, none⟩ x1).setCell ⟨w.heap.size, 2, none⟩ x2).setCell ⟨w.heap.size, 3, none⟩ x3).setCell ⟨w.heap.size, 4, none⟩ x4) :=
  (((((below_drewN ((Below.refl _ _).alloc (Nat.le_refl _) _) m).setCell (p := ⟨w.heap.size, 0, none⟩) (Nat.le_refl _) x0).setCell (p := ⟨w.heap.size, 1, none⟩) (Nat.le_refl _) x1).setCell (p := ⟨w.heap.size, 2, none⟩) (Nat.le_refl _) x2).setCell (p := ⟨w.heap.size, 3, none⟩) (Nat.le_refl _) x3).setCell (p := ⟨w.heap.size, 4, none⟩) (Nat.le_refl _) x4
theorem ofNo1 (w : World) (n c : Nat) (A : Option Addr) (l : List ByteArray) (keep : Int) (hr : Strs w w.heap.size A n l) (hnc : n ≤ c) (hc : c ≤ maxLen) (hf : Fit l) (hk : keysB l = false) :
    Calls Try.prog 29 #[.slice A n c, .int .i64 keep] w (NoSv w) := by
  have hlen := hr.len
  subst hlen
  have hn : l.length ≤ maxLen := Nat.le_trans hnc hc
  have HKY := Lib.hid (show ∀ W : World, W.heap = (w.alloc (.cells #[.string ⟨#[]⟩, .string ⟨#[]⟩, .string ⟨#[]⟩, .slice none 0 0, .int .i64 0] 27)).heap → Calls Try.prog 72 #[.slice A l.length c] W fun e w' => e = .returned (.bool false) ∧ Same W w' from fun W hW => by
    have h1 := keysS W w.heap.size l.length c A l ((hr.below ((Below.refl _ _).alloc (Nat.le_refl _) _) (Nat.le_refl _)).heap hW) hn hf
    rw [hk] at h1; exact h1)
  clear hr hf hk
  go_enter Try.func29, Try.ntmps29
  go_wp2_with (go_at_call 72; refine Calls.mono (HKY.out _ (by rfl)) ?_; rintro e w1 ⟨rfl, m1, rfl⟩)
  (try simp only [Exit.inBlock, Exit.then])
  refine bodyPost_ret (v := .tuple #[.agg #[.string ⟨#[]⟩, .string ⟨#[]⟩, .string ⟨#[]⟩, .slice none 0 0, .int .i64 0], .bool false]) ?_ rfl ⟨rfl, no_below w m1 _ _ _ _ _⟩
  exact ret_pair rfl _ _ w.heap.size _ _ rfl rfl (load_sieve (box_five (no_box w m1) _ _ _ _ _))

theorem ofNo2 (w : World) (n c : Nat) (A : Option Addr) (l : List ByteArray) (keep : Int) (hr : Strs w w.heap.size A n l) (hnc : n ≤ c) (hc : c ≤ maxLen) (hf : Fit l) (hk : keysB l = true) (hi : inB keep 0 5 = false) :
    Calls Try.prog 29 #[.slice A n c, .int .i64 keep] w (NoSv w) := by
  have hlen := hr.len
  subst hlen
  have hn : l.length ≤ maxLen := Nat.le_trans hnc hc
  have HKY := Lib.hid (show ∀ W : World, W.heap = (w.alloc (.cells #[.string ⟨#[]⟩, .string ⟨#[]⟩, .string ⟨#[]⟩, .slice none 0 0, .int .i64 0] 27)).heap → Calls Try.prog 72 #[.slice A l.length c] W fun e w' => e = .returned (.bool true) ∧ Same W w' from fun W hW => by
    have h1 := keysS W w.heap.size l.length c A l ((hr.below ((Below.refl _ _).alloc (Nat.le_refl _) _) (Nat.le_refl _)).heap hW) hn hf
    rw [hk] at h1; exact h1)
  have HIN := Lib.hid (show ∀ W : World, Calls Try.prog 73 #[.int .i64 keep, .int .i64 0, .int .i64 5] W fun e w' => e = .returned (.bool false) ∧ W = w' from fun W => by
    have h1 := inS keep 0 5 W
    rw [hi] at h1; exact h1)
  clear hr hf hk hi
  go_enter Try.func29, Try.ntmps29
  go_wp2_with (first
    | (go_at_call 72; refine Calls.mono (HKY.out _ (by rfl)) ?_; rintro e w1 ⟨rfl, m1, rfl⟩)
    | (go_at_call 73; refine (HIN.out _).mono ?_; rintro e w2 ⟨rfl, rfl⟩))
  (try simp only [Exit.inBlock, Exit.then])
  refine bodyPost_ret (v := .tuple #[.agg #[.string ⟨#[]⟩, .string ⟨#[]⟩, .string ⟨#[]⟩, .slice none 0 0, .int .i64 0], .bool false]) ?_ rfl ⟨rfl, no_below w m1 _ _ _ _ _⟩
  exact ret_pair rfl _ _ w.heap.size _ _ rfl rfl (load_sieve (box_five (no_box w m1) _ _ _ _ _))

/-- what SieveOf answers, at every slice of strings and every number -/
def OfA (w : World) (l : List ByteArray) (keep : Int) (e : Ending) (w' : World) : Prop :=
  (keysB l = true ∧ inB keep 0 5 = true ∧ OfR w (ls l) keep.toNat e w') ∨ ((keysB l = false ∨ inB keep 0 5 = false) ∧ NoSv w e w')
theorem ofS (w : World) (n c : Nat) (A : Option Addr) (l : List ByteArray) (keep : Int) (hr : Strs w w.heap.size A n l) (hnc : n ≤ c) (hc : c ≤ maxLen) (hf : Fit l) :
    Calls Try.prog 29 #[.slice A n c, .int .i64 keep] w (OfA w l keep) := by
  rcases Bool.eq_false_or_eq_true (keysB l) with hk | hk
  · rcases Bool.eq_false_or_eq_true (inB keep 0 5) with hi | hi
    · have h5 : 0 ≤ keep ∧ keep ≤ 5 := by unfold inB at hi; exact of_decide_eq_true hi
      obtain ⟨kp, rfl⟩ := Int.eq_ofNat_of_zero_le h5.1
      exact (ofYes w n c A l kp hr hnc hc hf hk (by omega)).mono fun e w' h => .inl ⟨hk, hi, by rw [Int.toNat_natCast]; exact h⟩
    · exact (ofNo2 w n c A l keep hr hnc hc hf hk hi).mono fun e w' h => .inr ⟨.inr hi, h⟩
  · exact (ofNo1 w n c A l keep hr hnc hc hf hk).mono fun e w' h => .inr ⟨.inl hk, h⟩

end Go.Proofs.Ytakadkhgcjndmaa.W
