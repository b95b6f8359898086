/-
  What the laws of filters ask, in mathematics, by the fields of a filter in memory. No walk.
-/
import Derived.Test.YtakadkhgcjndmaaY1
import Derived.Test.YtakadkhgcjndmaaZ0
import Derived.Test.YtakadkhgcjndmaaL3
import Derived.Test.YtakadkhgcjndmaaDS1
namespace Go.Proofs.Ytakadkhgcjndmaa.W
open Go.RowKit K

/-- these fields are the filter of these keys -/
structure Made (L M_ F : ByteArray) (R : List ByteArray) (keep : Int) (l : List ByteArray) (kp : Nat) : Prop where
  keys : keysB l = true
  le : kp ≤ 5
  k : keep = kp
  eL : L = ba (T.sieve kp (ls l)).letters
  eM : M_ = ba (T.sieve kp (ls l)).more
  eF : F = ba (T.sieve kp (ls l)).first
  eR : R = (T.sieve kp (ls l)).rests.map ba

theorem made_of {l : List ByteArray} {keep : Int} (h : svYes l keep = true) : ∃ kp : Nat, keep = kp ∧ svK l keep = kp ∧ Made (svL l keep) (svM l keep) (svF l keep) (svR l keep) keep l kp := by
  have h' := h
  unfold svYes at h'
  rw [Bool.and_eq_true] at h'
  have h5 : 0 ≤ keep ∧ keep ≤ 5 := by have := h'.2; unfold inB at this; exact of_decide_eq_true this
  obtain ⟨kp, rfl⟩ := Int.eq_ofNat_of_zero_le h5.1
  refine ⟨kp, rfl, by unfold svK; rw [if_pos h], ⟨h'.1, by omega, rfl, ?_, ?_, ?_, ?_⟩⟩
  · unfold svL; rw [if_pos h, Int.toNat_natCast]
  · unfold svM; rw [if_pos h, Int.toNat_natCast]
  · unfold svF; rw [if_pos h, Int.toNat_natCast]
  · unfold svR; rw [if_pos h, Int.toNat_natCast]

section
variable {L M_ F : ByteArray} {R : List ByteArray} {keep : Int} {l : List ByteArray} {kp : Nat}
theorem Made.kl (h : Made L M_ F R keep l kp) : T.KeyL (ls l) := keyL_of h.keys
theorem Made.n24 (h : Made L M_ F R keep l kp) : (ls l).length ≤ 24 := by rw [ls_len]; exact (keys_iff.mp h.keys).1
theorem Made.of_ (h : Made L M_ F R keep l kp) : svOf L M_ F R kp = T.sieve kp (ls l) := (sv_parts.mpr ⟨h.eL, h.eM, h.eF, h.eR⟩).symm
theorem Made.sv (h : Made L M_ F R keep l kp) : svB L M_ F R keep = true := by
  rw [h.k, h.eL, h.eM, h.eF, h.eR]
  exact svB_made h.kl h.n24 h.le
theorem Made.hd (h : Made L M_ F R keep l kp) : (svOf L M_ F R kp).heads = T.heads kp (ls l) := by rw [h.of_]; exact T.heads_of h.kl kp
theorem Made.hs (h : Made L M_ F R keep l kp) : hsOf L M_ F R kp = l.map fun k => ba (T.kept kp (ls l) k.toList) := by
  unfold hsOf
  rw [h.hd]
  unfold T.heads ls
  rw [List.map_map, List.map_map]
  rfl
theorem Made.has (h : Made L M_ F R keep l kp) (k : ByteArray) : hasO L M_ F R keep k = (keyB k && T.hasK kp (ls l) k.toList) := by
  unfold hasO
  rw [h.sv, h.k, Int.toNat_natCast, h.hd, Bool.true_and]
  rcases Bool.eq_false_or_eq_true (keyB k) with g | g
  · rw [T.hasK_heads h.kl kp (isKey_of g)]
  · rw [g]; rfl
theorem Made.seek (h : Made L M_ F R keep l kp) {f : ByteArray} (hf : keyB f = true) : seekO L M_ F R keep f = (T.seekK kp (ls l) f.toList).map ba := by
  have hs := h.sv
  rw [h.k] at hs ⊢
  rw [seekO_is hs hf, h.hd, T.seekK_heads h.kl]
theorem Made.meets (h : Made L M_ F R keep l kp) {f t : ByteArray} (hf : keyB f = true) (ht : keyB t = true) : meetO L M_ F R keep f t = T.meetsK kp (ls l) f.toList t.toList := by
  have hs := h.sv
  rw [h.k] at hs ⊢
  rw [meetO_is hs hf ht, h.hd, T.meetsK_heads h.kl]
theorem mem_ls {k : ByteArray} (hk : k ∈ l) : k.toList ∈ ls l := List.mem_map.mpr ⟨k, hk, rfl⟩
theorem of_mem_ls {x : T.Str} (hx : x ∈ ls l) : ba x ∈ l := by
  obtain ⟨k, hk, rfl⟩ := List.mem_map.mp hx
  rw [ba_of]; exact hk
theorem Made.keyOf (h : Made L M_ F R keep l kp) {k : ByteArray} (hk : k ∈ l) : keyB k = true := (keys_iff.mp h.keys).2.1 k hk
theorem le_of {a b : ByteArray} (h : lt b a = false) : a.toList ≤ b.toList := by
  rw [lt_ba] at h
  simpa using h
theorem of_le {a b : ByteArray} (h : a.toList ≤ b.toList) : lt b a = false := by
  rw [lt_ba]; simpa using h

/-- P10 -/
theorem Made.never (h : Made L M_ F R keep l kp) {k : ByteArray} (hk : k ∈ l) : hasO L M_ F R keep k = true := by
  rw [h.has, h.keyOf hk, T.has_key (mem_ls hk) kp]; rfl
theorem Made.meets_key (h : Made L M_ F R keep l kp) {k f t : ByteArray} (hk : k ∈ l) (hf : keyB f = true) (ht : keyB t = true) (h1 : lt k f = false) (h2 : lt t k = false) : meetO L M_ F R keep f t = true := by
  rw [h.meets hf ht]
  exact T.meets_key h.kl kp (mem_ls hk) (le_of h1) (le_of h2)
theorem Made.meets_has (h : Made L M_ F R keep l kp) {k f t : ByteArray} (hk : hasO L M_ F R keep k = true) (hf : keyB f = true) (ht : keyB t = true) (h1 : lt k f = false) (h2 : lt t k = false) : meetO L M_ F R keep f t = true := by
  rw [h.has, Bool.and_eq_true] at hk
  rw [h.meets hf ht]
  exact T.meets_has h.kl hk.2 (le_of h1) (le_of h2)
/-- P11 -/
theorem Made.hlen (h : Made L M_ F R keep l kp) : (hsOf L M_ F R kp).length = l.length := by rw [h.hs, List.length_map]
theorem Made.hget (h : Made L M_ F R keep l kp) {i : Nat} (hi : i < l.length) (hi' : i < (hsOf L M_ F R kp).length) : (hsOf L M_ F R kp)[i] = ba (T.kept kp (ls l) l[i].toList) := by
  have : (hsOf L M_ F R kp)[i]? = some (ba (T.kept kp (ls l) l[i].toList)) := by rw [h.hs, List.getElem?_map, List.getElem?_eq_getElem hi]; rfl
  rw [List.getElem?_eq_getElem hi'] at this
  injection this
theorem Made.begins (h : Made L M_ F R keep l kp) {i : Nat} (hi : i < l.length) (hi' : i < (hsOf L M_ F R kp).length) : begB l[i] (hsOf L M_ F R kp)[i] = true := by
  rw [h.hget hi hi', beg_pre, ba_l, List.isPrefixOf_iff_prefix]
  exact T.kept_pre _ _ _
theorem Made.hkeys (h : Made L M_ F R keep l kp) : keysB (hsOf L M_ F R kp) = true := by
  unfold hsOf
  rw [h.hd]
  exact keysB_of (T.heads_key h.kl kp) (by unfold T.heads; rw [List.length_map]; exact h.n24)
/-- P12 -/
theorem Made.apart (h : Made L M_ F R keep l kp) {i k : Nat} (hi : i < l.length) (hk : k < l.length) (hi' : i < (hsOf L M_ F R kp).length) (hne : i ≠ k) (hd : eqs l[i] (hsOf L M_ F R kp)[i] = false) : begB l[k] (hsOf L M_ F R kp)[i] = false := by
  have hx : T.kept kp (ls l) l[i].toList ≠ l[i].toList := by
    intro e
    rw [h.hget hi hi', e, ba_of, eqs_self] at hd
    cases hd
  have hka := T.kept_apart h.kl kp (x := l[i].toList) (y := l[k].toList) (mem_ls (List.getElem_mem hi)) (mem_ls (List.getElem_mem hk)) ?_ hx
  · rw [h.hget hi hi', ← Bool.not_eq_true, beg_pre, ba_l, List.isPrefixOf_iff_prefix]
    exact hka
  · intro e
    have ha := (keys_iff.mp h.keys).2.2
    unfold asc at ha
    rw [List.pairwise_iff_getElem] at ha
    have e' : l[k] = l[i] := ba_ext e
    rcases Nat.lt_or_gt_of_ne hne with hl | hl
    · have := ha i k hi hk hl
      rw [e', lt_irrefl] at this; cases this
    · have := ha k i hk hi hl
      rw [e', lt_irrefl] at this; cases this
/-- a filter that is one is that of what it keeps -/
theorem made_back {L M_ F : ByteArray} {R : List ByteArray} {keep : Int} (h : svB L M_ F R keep = true) : ∃ kp : Nat, keep = kp ∧ Made L M_ F R keep (hsOf L M_ F R kp) kp := by
  have h5 : 0 ≤ keep ∧ keep ≤ 5 := by
    have h' := h
    unfold svB at h'
    rw [Bool.and_eq_true] at h'
    exact (form_parts h'.1).2.2.2.2
  obtain ⟨kp, rfl⟩ := Int.eq_ofNat_of_zero_le h5.1
  obtain ⟨g1, g2, g3, g4⟩ := svB_is h
  refine ⟨kp, rfl, ?_⟩
  have hp := sv_parts.mp (show T.sieve kp (svOf L M_ F R kp).heads = svOf L M_ F R kp from g4.symm)
  refine ⟨by unfold hsOf; exact keysB_of g1 g2, by omega, rfl, ?_, ?_, ?_, ?_⟩
  · rw [ls_hs]; exact hp.1
  · rw [ls_hs]; exact hp.2.1
  · rw [ls_hs]; exact hp.2.2.1
  · rw [ls_hs]; exact hp.2.2.2
theorem made_fields (h : Made L M_ F R keep l kp) : svYes l keep = true ∧ svL l keep = L ∧ svM l keep = M_ ∧ svF l keep = F ∧ svR l keep = R ∧ svK l keep = keep := by
  have hy : svYes l keep = true := by
    unfold svYes inB
    rw [h.keys, h.k]
    have := h.le
    simp; omega
  refine ⟨hy, ?_, ?_, ?_, ?_, ?_⟩
  · unfold svL; rw [if_pos hy, h.k, Int.toNat_natCast, ← h.eL]
  · unfold svM; rw [if_pos hy, h.k, Int.toNat_natCast, ← h.eM]
  · unfold svF; rw [if_pos hy, h.k, Int.toNat_natCast, ← h.eF]
  · unfold svR; rw [if_pos hy, h.k, Int.toNat_natCast, ← h.eR]
  · unfold svK; rw [if_pos hy]
/-- P15 -/
theorem Made.has_beg (h : Made L M_ F R keep l kp) {k : ByteArray} (hk : hasO L M_ F R keep k = true) : ∃ x ∈ hsOf L M_ F R kp, begB k x = true := by
  rw [h.has, Bool.and_eq_true] at hk
  obtain ⟨x, hx, hp, -⟩ := T.has_pre hk.2
  refine ⟨ba (T.kept kp (ls l) x), ?_, ?_⟩
  · rw [h.hs]
    obtain ⟨y, hy, rfl⟩ := List.mem_map.mp hx
    exact List.mem_map.mpr ⟨y, hy, rfl⟩
  · rw [beg_pre, ba_l, List.isPrefixOf_iff_prefix]; exact hp
/-- P16, P17 -/
theorem Made.whole (h : Made L M_ F R 5 l 5) : hsOf L M_ F R 5 = l := by
  rw [h.hs]
  have e := T.heads_all h.kl
  unfold T.heads at e
  have : ∀ k ∈ l, ba (T.kept 5 (ls l) k.toList) = k := by
    intro k hk
    have e2 : (ls l).map (T.kept 5 (ls l)) = (ls l).map id := by rw [e, List.map_id]
    have := List.map_inj_left.mp e2 k.toList (mem_ls hk)
    rw [this]; exact ba_of k
  rw [List.map_congr_left this]
  exact List.map_id _
theorem Made.exact_ (h : Made L M_ F R 5 l 5) (k : ByteArray) : hasO L M_ F R 5 k = inL l k := by
  rw [h.has, Bool.eq_iff_iff, Bool.and_eq_true, inL_iff, T.has_all h.kl]
  constructor
  · rintro ⟨-, h2⟩
    have := of_mem_ls h2
    rwa [ba_of] at this
  · intro hk
    exact ⟨h.keyOf hk, mem_ls hk⟩
theorem Made.size_ (h : Made L M_ F R keep l kp) : (L.size : Nat) = (T.sieve kp (ls l)).letters.length := by rw [h.eL, ba_len]
theorem Made.size_same {L2 M2 F2 : ByteArray} {R2 : List ByteArray} {keep2 : Int} {kp2 : Nat} (h : Made L M_ F R keep l kp) (h2 : Made L2 M2 F2 R2 keep2 l kp2) : L.size = L2.size := by
  rw [h.size_, h2.size_, T.size_is h.kl, T.size_is h.kl]
/-- P18 -/
theorem Made.less {L2 M2 F2 : ByteArray} {R2 : List ByteArray} (h : Made L M_ F R keep l kp) (h2 : Made L2 M2 F2 R2 (keep + 1) l (kp + 1)) {k : ByteArray} (hk : hasO L2 M2 F2 R2 (keep + 1) k = true) : hasO L M_ F R keep k = true := by
  rw [h2.has, Bool.and_eq_true] at hk
  rw [h.has, hk.1, T.has_less hk.2]; rfl
/-- P21 -/
theorem Made.meets_down (h : Made L M_ F R keep l kp) {f t g : ByteArray} (hf : keyB f = true) (ht : keyB t = true) (hg : keyB g = true) (hm : meetO L M_ F R keep f t = true) (hle : lt f g = false) : meetO L M_ F R keep g t = true := by
  rw [h.meets hf ht] at hm
  rw [h.meets hg ht]
  exact T.meets_down h.kl hm (le_of hle)
theorem Made.meets_up (h : Made L M_ F R keep l kp) {f t u : ByteArray} (hf : keyB f = true) (ht : keyB t = true) (hu : keyB u = true) (hm : meetO L M_ F R keep f t = true) (hle : lt u t = false) : meetO L M_ F R keep f u = true := by
  rw [h.meets hf ht] at hm
  rw [h.meets hf hu]
  exact T.meets_up hm (le_of hle)
theorem meet_parts {f t : ByteArray} (hm : meetO L M_ F R keep f t = true) : svB L M_ F R keep = true ∧ keyB f = true ∧ keyB t = true ∧ lt t f = false := by
  unfold meetO at hm
  rw [Bool.and_eq_true, Bool.and_eq_true] at hm
  obtain ⟨h1, h2, h3⟩ := hm
  have h4 : svB L M_ F R keep = true ∧ keyB f = true := by
    unfold seekO at h3
    split at h3
    · next h => exact h
    · simp [atMost] at h3
  exact ⟨h4.1, h4.2, h1, by simpa using h2⟩
theorem has_parts {k : ByteArray} (hm : hasO L M_ F R keep k = true) : svB L M_ F R keep = true ∧ keyB k = true := by
  unfold hasO at hm
  rw [Bool.and_eq_true, Bool.and_eq_true] at hm
  exact ⟨hm.1, hm.2.1⟩
theorem seek_parts {f h : ByteArray} (hm : seekO L M_ F R keep f = some h) : svB L M_ F R keep = true ∧ keyB f = true := by
  unfold seekO at hm
  split at hm
  · next h => exact h
  · cases hm
/-- P22 -/
def top5 : ByteArray := ⟨#[100, 100, 100, 100, 100]⟩
theorem top5_l : top5.toList = [100, 100, 100, 100, 100] := by rw [ByteArray.toList_eq]; rfl
theorem key_top5 {k : ByteArray} (h : keyB k = true) : lt top5 k = false := of_le (by rw [top5_l]; exact T.key_top (isKey_of h))
theorem Made.seek_facts (h : Made L M_ F R keep l kp) {f x : ByteArray} (hf : keyB f = true) (hx : seekO L M_ F R keep f = some x) : inL (hsOf L M_ F R kp) x = true ∧ (lt x f = false ∨ begB f x = true) ∧ meetO L M_ F R keep f top5 = true := by
  have hx' := hx
  rw [h.seek hf] at hx
  cases hk : T.seekK kp (ls l) f.toList with
  | none => rw [hk] at hx; cases hx
  | some s =>
    rw [hk] at hx
    injection hx with hx
    obtain ⟨h1, h2⟩ := T.seek_near hk
    have hin : x ∈ hsOf L M_ F R kp := by
      unfold hsOf
      rw [h.hd, ← hx]
      exact List.mem_map.mpr ⟨s, h1, rfl⟩
    have hkx : keyB x = true := (keys_iff.mp h.hkeys).2.1 x hin
    refine ⟨inL_iff.mpr hin, ?_, ?_⟩
    · rcases h2 with h2 | h2
      · left; rw [← hx]; exact of_le (by rw [ba_l]; exact h2)
      · right; rw [← hx, beg_pre, ba_l, List.isPrefixOf_iff_prefix]; exact h2
    · unfold meetO
      rw [hx', key_top5 hf, show keyB top5 = true from rfl]
      unfold atMost
      simp [key_top5 hkx]
/-- P23 -/
theorem Made.seek_first (h : Made L M_ F R keep l kp) {f k : ByteArray} (hf : keyB f = true) (hk : firstK l f = some k) : ∃ x, seekO L M_ F R keep f = some x ∧ lt k x = false := by
  obtain ⟨h1, h2, -⟩ := first_some hk
  obtain ⟨s, g1, g2⟩ := T.seek_first h.kl kp (mem_ls h1) (le_of h2)
  exact ⟨ba s, by rw [h.seek hf, g1]; rfl, of_le (by rw [ba_l]; exact g2)⟩
/-- P24 -/
theorem Made.size_low (h : Made L M_ F R keep l kp) : l.length ≤ L.size := by
  rw [h.size_, ← ls_len]
  exact T.size_low h.kl kp
theorem Made.size_high (h : Made L M_ F R keep l kp) : L.size ≤ ((hsOf L M_ F R kp).map fun k => k.size + 1).sum := by
  rw [h.size_]
  refine Nat.le_trans (T.size_high h.kl kp) ?_
  unfold hsOf
  rw [h.hd, List.map_map]
  have : ∀ k ∈ T.heads kp (ls l), k.length + 1 = ((fun k : ByteArray => k.size + 1) ∘ ba) k := fun k _ => by
    show k.length + 1 = (ba k).size + 1
    rw [ba_len]
  rw [List.map_congr_left this]
  exact Nat.le_refl _
/-- P26 -/
theorem Made.size_more {L2 M2 F2 : ByteArray} {R2 l2 : List ByteArray} {keep2 : Int} {kp2 : Nat} (h : Made L M_ F R keep l kp) (h2 : Made L2 M2 F2 R2 keep2 l2 kp2) (hs : ∀ k ∈ l, k ∈ l2) : L.size ≤ L2.size := by
  rw [h.size_, h2.size_]
  refine T.size_mono h.kl h2.kl (fun x hx => ?_) kp kp2
  have := mem_ls (hs _ (of_mem_ls hx))
  rwa [ba_l] at this
/-- P14 -/
theorem Made.parts (h : Made L M_ F R keep l kp) : M_.size = L.size ∧ F.size = L.size ∧ R.length + M.ones M_.toList = L.size ∧ M.ones F.toList = M.ones M_.toList + min L.size 1 := by
  have l2 : (T.sieve kp (ls l)).more.length = (T.sieve kp (ls l)).letters.length := by show (T.more _).length = (T.letters _).length; rw [T.len_more, T.len_letters]
  have l3 : (T.sieve kp (ls l)).first.length = (T.sieve kp (ls l)).letters.length := by show (T.firsts _).length = (T.letters _).length; rw [T.len_firsts, T.len_letters]
  have l4 : (T.sieve kp (ls l)).rests.length + M.ones (T.sieve kp (ls l)).more = (T.sieve kp (ls l)).letters.length := T.rest_count kp (T.forks (ls l))
  have e1 : L.size = (T.sieve kp (ls l)).letters.length := h.size_
  have e2 : M_.size = (T.sieve kp (ls l)).more.length := by rw [h.eM, ba_len]
  have e3 : F.size = (T.sieve kp (ls l)).first.length := by rw [h.eF, ba_len]
  have e4 : R.length = (T.sieve kp (ls l)).rests.length := by rw [h.eR, List.length_map]
  have e5 : M_.toList = (T.sieve kp (ls l)).more := by rw [h.eM, ba_l]
  have e6 : F.toList = (T.sieve kp (ls l)).first := by rw [h.eF, ba_l]
  refine ⟨by omega, by omega, by rw [e4, e5]; omega, ?_⟩
  rw [e5, e6]
  by_cases hne : ls l = []
  · have z : L.size = 0 := by rw [e1, hne, T.sieve_nil]; rfl
    have z2 : (T.sieve kp (ls l)).more = [] := List.eq_nil_of_length_eq_zero (by omega)
    have z3 : (T.sieve kp (ls l)).first = [] := List.eq_nil_of_length_eq_zero (by omega)
    rw [z, z2, z3]; rfl
  · have hf := T.forks_more h.kl hne kp
    have : 0 < L.size := by
      have h1 := h.size_low
      have : 0 < l.length := by
        rcases Nat.eq_zero_or_pos l.length with h0 | h0
        · exact absurd (by unfold ls; rw [List.eq_nil_of_length_eq_zero h0]; rfl) hne
        · exact h0
      omega
    rw [hf]; omega
end

end Go.Proofs.Ytakadkhgcjndmaa.W
