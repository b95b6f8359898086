/-
  Contracts of the other drawing functions: opening a reader on a slice of bytes, drawing one of some strings, and a string many times. What is drawn is left open but for its length.
-/
import Derived.Test.YtipkhpijanhfiaaD1
namespace Go.Proofs.Ytipkhpijanhfiaa.W
open Go.RowKit

/-- a reader is opened in a new block -/
def Opened (w : World) (e : Ending) (w' : World) : Prop :=
  ∃ (A : Option Addr) (n c : Nat), e = .returned (.pointer (some ⟨w.heap.size, 0, none⟩)) ∧ Rd w' w.heap.size 0 A n c ∧ Below w.heap.size w w'

theorem Bytes.less {w : World} {B n k : Nat} {A : Option Addr} (h : Bytes w B A n) (hk : k ≤ n) : Bytes w B A k := fun i hi => h i (by omega)

theorem opened_mk (w : World) (A : Option Addr) (n c : Nat) (hn : n ≤ 2000) (hb : Bytes w w.heap.size A n) : Opened w (.returned (.pointer (some ⟨w.heap.size, 0, none⟩))) (w.alloc (.cells #[.slice A n c, .int .i64 0] 55)) :=
  ⟨A, n, c, rfl, ⟨heap_alloc_new w _, hn, hb.keep fun b _ hb => World.cell?_of_block (Below.heap_alloc w _ b hb)⟩, (Below.refl _ _).alloc (Nat.le_refl _) _⟩

set_option maxHeartbeats 400000 in
theorem openR (w : World) (A : Option Addr) (n c : Nat) (hb : Bytes w w.heap.size A n) (hnc : n ≤ c) (hc : c ≤ maxLen) :
    Calls Try.prog 34 #[.slice A n c] w (Opened w) := by
  unfold maxLen at hc
  by_cases hn : n ≤ 2000
  · have hn' : ¬ (2000 : Int) < (n : Int) := by omega
    have HB := Lib.hid hb
    clear hb
    go_enter Try.func34, Try.ntmps34
    go_wp2
    go_ret
    exact opened_mk w A n c hn HB.out
  · have hn' : (2000 : Int) < (n : Int) := by omega
    obtain ⟨b, off, z, rfl, _⟩ := hb 0 (by omega)
    have HB := Lib.hid hb
    clear hb
    go_enter Try.func34, Try.ntmps34
    go_wp2
    go_ret
    exact opened_mk w _ 2000 c (by omega) (HB.out.less (by omega))

/-- one of some strings is drawn: it has what all of them have -/
def Drawn (P : ByteArray → Prop) (g p n c : Nat) (A : Option Addr) (w : World) (e : Ending) (w' : World) : Prop :=
  ∃ s : ByteArray, P s ∧ e = .returned (.string s) ∧ Rd w' g (p + 1) A n c ∧ w.grownBy w' (some g)

set_option maxHeartbeats 400000 in
theorem ofR (P : ByteArray → Prop) (w : World) (g p n c h k : Nat) (A : Option Addr) (hr : Rd w g p A n c) (hp : p ≤ 1000000) (hk : 0 < k) (hk2 : k ≤ 1000) (hg : h ≠ g)
    (hs : ∀ i, i < k → ∃ s, w.cell? ⟨h, i, none⟩ = some (.string s) ∧ P s) (hlt : h < w.heap.size) :
    Calls Try.prog 50 #[.pointer (some ⟨g, 0, none⟩), .slice (some ⟨h, 0, none⟩) k k] w (Drawn P g p n c A w) := by
  have hkk : (k : Int) ≤ 9223372036854775807 := by omega
  have HS := Lib.hid hs
  clear hs
  go_enter Try.func50, Try.ntmps50
  go_wp2_with fail
  go_at_call 35
  refine (pick w g p n c A (k : Int) hr hp hkk).mono ?_
  rintro e w1 ⟨x, rfl, hx0, hx1, hr1, hg1⟩
  obtain ⟨X, rfl⟩ := Int.eq_ofNat_of_zero_le hx0
  have hX : X < k := by omega
  obtain ⟨s, hc, hPs⟩ := HS.out X hX
  have hc1 : w1.cell? ⟨h, X, none⟩ = some (.string s) := by rw [← hc]; exact World.cell?_of_block (hg1.block h hlt (fun e => hg (by injection e)))
  clear hc hr
  go_wp2
  go_ret
  exact ⟨s, hPs, rfl, hr1, hg1⟩

/-- a string so many times: its length is told -/
def Many (L : Nat) (w : World) (e : Ending) (w' : World) : Prop := ∃ s : ByteArray, s.size = L ∧ e = .returned (.string s) ∧ w = w'

theorem many_odd {a b n T : Nat} (hn : n % 2 = 1) (h : a + n * b = T) : (a + b) + (n / 2) * (b + b) = T := by
  obtain ⟨m, rfl⟩ : ∃ m, n = 2 * m + 1 := ⟨n / 2, by omega⟩
  have e : (2 * m + 1) / 2 = m := by omega
  rw [e]
  rw [Nat.add_mul, Nat.one_mul, Nat.mul_assoc] at h
  rw [Nat.mul_add]
  omega
theorem many_even {a b n T : Nat} (hn : n % 2 = 0) (h : a + n * b = T) : a + (n / 2) * (b + b) = T := by
  obtain ⟨m, rfl⟩ : ∃ m, n = 2 * m := ⟨n / 2, by omega⟩
  have e : (2 * m) / 2 = m := by omega
  rw [e]
  rw [Nat.mul_assoc] at h
  rw [Nat.mul_add]
  omega

set_option maxHeartbeats 400000 in
theorem manyR (s0 : ByteArray) (n0 : Nat) (w : World) (h0 : n0 * s0.size ≤ 1000000) (hs0 : s0.size ≤ 1000) (hn0 : n0 ≤ 1000000) :
    Calls Try.prog 46 #[.string s0, .int .i64 (n0 : Nat)] w (Many (n0 * s0.size) w) := by
  go_enter Try.func46, Try.ntmps46
  go_wp2
  go_loop [0, 1, 5] (fun sv nv ov => ∃ (s out : ByteArray) (n : Nat), sv = .string s ∧ nv = .int .i64 (n : Nat) ∧ ov = .string out ∧ n ≤ n0 ∧ s.size ≤ 2000000 ∧ out.size + n * s.size = n0 * s0.size) (fun _ nv _ => (intOf nv).toNat)
  case atStart => exact ⟨s0, _, n0, rfl, rfl, rfl, by omega, by omega, Nat.zero_add _⟩
  case round =>
    obtain ⟨s, out, n, rfl, rfl, rfl, hn, hs, hsum⟩ := hrel
    have HS := Lib.hid hsum
    have hout : out.size ≤ 1000000 := by omega
    clear hsum
    by_cases hn1 : 0 < n
    · have hle : s.size ≤ 1000000 := by
        have h1 := HS.out
        have h2 : s.size ≤ n * s.size := Nat.le_mul_of_pos_left _ hn1
        omega
      by_cases hodd : (n : Int) % 2 = 1
      · have hodd' : ((n : Int) % 2 == 1) = true := by simp [hodd]
        have hmod : n % 2 = 1 := by omega
        have HM := Lib.hid hmod
        clear hodd hmod
        go_wp2
        go_round
        case rel => exact ⟨s ++ s, out ++ s, n / 2, rfl, by go_num, rfl, by omega, by simp only [ByteArray.size_append]; omega, by simp only [ByteArray.size_append]; exact many_odd HM.out HS.out⟩
        case measure => simp [intOf]; omega
      · have hodd' : ((n : Int) % 2 == 1) = false := by simp [hodd]
        have hmod : n % 2 = 0 := by omega
        have HM := Lib.hid hmod
        clear hodd hmod
        go_wp2
        go_round
        case rel => exact ⟨s ++ s, out, n / 2, rfl, by go_num, rfl, by omega, by simp only [ByteArray.size_append]; omega, by simp only [ByteArray.size_append]; exact many_even HM.out HS.out⟩
        case measure => simp [intOf]; omega
    · have hn2 : n = 0 := by omega
      subst hn2
      go_wp2
      go_ret
      exact ⟨out, by have h1 := HS.out; simpa using h1, rfl, rfl⟩

theorem Rd.alloc {w : World} {g p n c : Nat} {A : Option Addr} (h : Rd w g p A n c) (o : Obj) : Rd (w.alloc o) g p A n c := h.grown (World.grownBy_alloc w o none) (by simp)
theorem two_at (w : World) (a b : UInt8) {t : TypeId} : ∀ i, i < 2 → ∃ s, (w.alloc (.cells #[.string ⟨#[a]⟩, .string ⟨#[b]⟩] t)).cell? ⟨w.heap.size, i, none⟩ = some (.string s) ∧ s.size ≤ 1 := by
  intro i hi
  rw [cell_of_row _ _ _ _ _ _ (heap_alloc_new w _)]
  rcases (by omega : i = 0 ∨ i = 1) with rfl | rfl
  · exact ⟨⟨#[a]⟩, rfl, Nat.le_refl _⟩
  · exact ⟨⟨#[b]⟩, rfl, Nat.le_refl _⟩

end Go.Proofs.Ytipkhpijanhfiaa.W
