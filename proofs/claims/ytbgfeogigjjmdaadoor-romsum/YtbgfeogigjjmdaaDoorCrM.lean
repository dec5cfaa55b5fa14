import Derived.Test.YtbgfeogigjjmdaaDoorChecked
namespace Go.Proofs.YtbgfeogigjjmdaaDoor.Crc
def P : Nat := 3988292384
/-- One bit of the sum, shifted out. -/
def f1 (s : Nat) : Nat := if s % 2 = 1 then s / 2 ^^^ P else s / 2
def f4 (s : Nat) : Nat := f1 (f1 (f1 (f1 s)))
def f8 (s : Nat) : Nat := f4 (f4 s)
def tab : List Nat := [0, 498536548, 997073096, 651767980, 1994146192, 1802195444, 1303535960, 1342533948, 3988292384, 4027552580, 3604390888, 3412177804, 2607071920, 2262029012, 2685067896, 3183342108]
def sumF : Nat → List Nat → Nat
  | s, [] => s
  | s, x :: r => sumF (f8 (s ^^^ x)) r
def crc (l : List Nat) : Nat := sumF 4294967295 l ^^^ 4294967295

theorem f1_xor (a b : Nat) : f1 (a ^^^ b) = f1 a ^^^ f1 b := by
  unfold f1
  have h := @Nat.xor_mod_two_eq_one a b
  rw [Nat.xor_div_two]
  by_cases ha : a % 2 = 1 <;> by_cases hb : b % 2 = 1 <;> simp [ha, hb] at h ⊢
  · rw [show a / 2 ^^^ P ^^^ (b / 2 ^^^ P) = a / 2 ^^^ b / 2 ^^^ (P ^^^ P) by ac_rfl]; simp
  · ac_rfl
  · ac_rfl
theorem f4_xor (a b : Nat) : f4 (a ^^^ b) = f4 a ^^^ f4 b := by unfold f4; simp only [f1_xor]
theorem f8_xor (a b : Nat) : f8 (a ^^^ b) = f8 a ^^^ f8 b := by unfold f8; simp only [f4_xor]
theorem f1_twice (t : Nat) : f1 (2 * t) = t := by unfold f1; rw [if_neg (by omega)]; omega
theorem f4_times (t : Nat) : f4 (16 * t) = t := by
  unfold f4
  rw [show 16 * t = 2 * (2 * (2 * (2 * t))) by omega]; simp only [f1_twice]
theorem split16 (s : Nat) : s = 16 * (s / 16) ^^^ s % 16 := by
  apply Nat.eq_of_testBit_eq
  intro i
  rw [Nat.testBit_xor, show 16 * (s / 16) = (s / 2 ^ 4) * 2 ^ 4 by omega, show s % 16 = s % 2 ^ 4 by rfl, Nat.testBit_mul_two_pow, Nat.testBit_mod_two_pow, Nat.testBit_div_two_pow]
  by_cases h : 4 ≤ i
  · have : ¬ i < 4 := by omega
    simp [h, this, show i - 4 + 4 = i by omega]
  · have : i < 4 := by omega
    simp [h, this]
theorem f4_low : ∀ r, r < 16 → f4 r = tab.getD r 0 := by decide
theorem f4_tab (s : Nat) : f4 s = s / 16 ^^^ tab.getD (s % 16) 0 := by
  have h : f4 (16 * (s / 16) ^^^ s % 16) = s / 16 ^^^ tab.getD (s % 16) 0 := by rw [f4_xor, f4_times, f4_low _ (by omega)]
  rw [← split16] at h; exact h
theorem tab_lt (r : Nat) : tab.getD r 0 < 4294967296 := by
  rcases Nat.lt_or_ge r 16 with h | h
  · revert r; decide
  · rw [List.getD_eq_getElem?_getD, List.getElem?_eq_none (by simpa [tab] using h)]; decide
theorem xor_lt {a b : Nat} (ha : a < 4294967296) (hb : b < 4294967296) : a ^^^ b < 4294967296 := Nat.xor_lt_two_pow (n := 32) ha hb
theorem f1_lt {s : Nat} (h : s < 4294967296) : f1 s < 4294967296 := by
  unfold f1
  split
  · exact xor_lt (by omega) (by decide)
  · omega
theorem f4_lt {s : Nat} (h : s < 4294967296) : f4 s < 4294967296 := f1_lt (f1_lt (f1_lt (f1_lt h)))
theorem f8_lt {s : Nat} (h : s < 4294967296) : f8 s < 4294967296 := f4_lt (f4_lt h)
theorem xor_can {a b c : Nat} (h : a ^^^ c = b ^^^ c) : a = b := by
  have := congrArg (· ^^^ c) h
  simpa [Nat.xor_assoc] using this
theorem f1_inj {a b : Nat} (ha : a < 4294967296) (hb : b < 4294967296) (h : f1 a = f1 b) : a = b := by
  have key : ∀ x y : Nat, x < 2147483648 → y < 2147483648 → x ^^^ P ≠ y := by
    intro x y hx hy e
    have h1 := congrArg (·.testBit 31) e
    simp only [Nat.testBit_xor] at h1
    rw [Nat.testBit_lt_two_pow (i := 31) hx, Nat.testBit_lt_two_pow (i := 31) hy] at h1
    exact absurd h1 (by decide)
  unfold f1 at h
  by_cases h1 : a % 2 = 1 <;> by_cases h2 : b % 2 = 1 <;> simp only [h1, h2, if_true, if_false] at h
  · have := xor_can h; omega
  · exact absurd h (key _ _ (by omega) (by omega))
  · exact absurd h.symm (key _ _ (by omega) (by omega))
  · omega
theorem f8_inj {a b : Nat} (ha : a < 4294967296) (hb : b < 4294967296) (h : f8 a = f8 b) : a = b := by
  have g4 : ∀ {a b : Nat}, a < 4294967296 → b < 4294967296 → f4 a = f4 b → a = b := fun ha hb h =>
    f1_inj ha hb (f1_inj (f1_lt ha) (f1_lt hb) (f1_inj (f1_lt (f1_lt ha)) (f1_lt (f1_lt hb)) (f1_inj (f1_lt (f1_lt (f1_lt ha))) (f1_lt (f1_lt (f1_lt hb))) h)))
  exact g4 ha hb (g4 (f4_lt ha) (f4_lt hb) h)
theorem sumF_lt : ∀ (l : List Nat) (s : Nat), s < 4294967296 → (∀ x ∈ l, x < 256) → sumF s l < 4294967296
  | [], s, h, _ => h
  | x :: r, s, h, hl => sumF_lt r _ (f8_lt (xor_lt h (by have := hl x (by simp); omega))) (fun y hy => hl y (by simp [hy]))
theorem crc_lt (l : List Nat) (h : ∀ x ∈ l, x < 256) : crc l < 4294967296 := xor_lt (sumF_lt l _ (by decide) h) (by decide)
theorem sumF_inj : ∀ (l : List Nat) (s t : Nat), s < 4294967296 → t < 4294967296 → (∀ x ∈ l, x < 256) → sumF s l = sumF t l → s = t
  | [], s, t, _, _, _, h => h
  | x :: r, s, t, hs, ht, hl, h => by
    have hx : x < 4294967296 := by have := hl x (by simp); omega
    have h1 := sumF_inj r _ _ (f8_lt (xor_lt hs hx)) (f8_lt (xor_lt ht hx)) (fun y hy => hl y (by simp [hy])) h
    exact xor_can (f8_inj (xor_lt hs hx) (xor_lt ht hx) h1)
/-- One byte turned turns the sum. -/
theorem sumF_set : ∀ (l : List Nat) (s i v : Nat) (hi : i < l.length), s < 4294967296 → (∀ x ∈ l, x < 256) → v < 256 → v ≠ l[i] → sumF s (l.set i v) ≠ sumF s l
  | x :: r, s, 0, v, _, hs, hl, hv, hne, h => by
    have hx : x < 4294967296 := by have := hl x (by simp); omega
    have h1 : sumF (f8 (s ^^^ v)) r = sumF (f8 (s ^^^ x)) r := h
    have h2 := sumF_inj r _ _ (f8_lt (xor_lt hs (by omega))) (f8_lt (xor_lt hs hx)) (fun y hy => hl y (by simp [hy])) h1
    have h3 := f8_inj (xor_lt hs (by omega)) (xor_lt hs hx) h2
    rw [Nat.xor_comm s v, Nat.xor_comm s x] at h3
    exact hne (xor_can h3)
  | x :: r, s, i + 1, v, hi, hs, hl, hv, hne, h => by
    have hx : x < 4294967296 := by have := hl x (by simp); omega
    exact sumF_set r (f8 (s ^^^ x)) i v (by simpa using hi) (f8_lt (xor_lt hs hx)) (fun y hy => hl y (by simp [hy])) hv (by simpa using hne) h
theorem crc_set (l : List Nat) (i v : Nat) (hi : i < l.length) (hl : ∀ x ∈ l, x < 256) (hv : v < 256) (hne : v ≠ l[i]) : crc (l.set i v) ≠ crc l := fun h =>
  sumF_set l _ i v hi (by decide) hl hv hne (xor_can h)
theorem sumF_xor : ∀ (a b c x : List Nat) (s t u : Nat), a.length = x.length → b.length = x.length → c.length = x.length → (∀ i (h : i < x.length), x[i] = a.getD i 0 ^^^ b.getD i 0 ^^^ c.getD i 0) →
    sumF (s ^^^ t ^^^ u) x = sumF s a ^^^ sumF t b ^^^ sumF u c
  | [], B, C, x :: X, _, _, _, h1, _, _, _ => by simp at h1
  | a :: A, B, C, [], _, _, _, h1, _, _, _ => by simp at h1
  | A, [], C, x :: X, _, _, _, _, h1, _, _ => by simp at h1
  | A, b :: B, C, [], _, _, _, _, h1, _, _ => by simp at h1
  | A, B, [], x :: X, _, _, _, _, _, h1, _ => by simp at h1
  | A, B, c :: C, [], _, _, _, _, _, h1, _ => by simp at h1
  | [], [], [], [], _, _, _, _, _, _, _ => rfl
  | a :: A, b :: B, c :: C, x :: X, s, t, u, h1, h2, h3, h => by
    have h0 := h 0 (by simp)
    simp at h0
    show sumF (f8 (s ^^^ t ^^^ u ^^^ x)) X = sumF (f8 (s ^^^ a)) A ^^^ sumF (f8 (t ^^^ b)) B ^^^ sumF (f8 (u ^^^ c)) C
    rw [← sumF_xor A B C X _ _ _ (by simpa using h1) (by simpa using h2) (by simpa using h3) (fun i hi => by have := h (i + 1) (by simpa using hi); simpa using this)]
    congr 1
    rw [← f8_xor, ← f8_xor, h0]
    congr 1
    ac_rfl
theorem crc_xor (a b c x : List Nat) (h1 : a.length = x.length) (h2 : b.length = x.length) (h3 : c.length = x.length) (h : ∀ i (h : i < x.length), x[i] = a.getD i 0 ^^^ b.getD i 0 ^^^ c.getD i 0) :
    crc x = crc a ^^^ crc b ^^^ crc c := by
  have := sumF_xor a b c x 4294967295 4294967295 4294967295 h1 h2 h3 h
  unfold crc
  rw [show (4294967295 : Nat) = 4294967295 ^^^ 4294967295 ^^^ 4294967295 by decide, this]
  simp only [show (4294967295 : Nat) ^^^ 4294967295 ^^^ 4294967295 = 4294967295 by decide]
  rw [show sumF 4294967295 a ^^^ 4294967295 ^^^ (sumF 4294967295 b ^^^ 4294967295) ^^^ (sumF 4294967295 c ^^^ 4294967295) = sumF 4294967295 a ^^^ sumF 4294967295 b ^^^ sumF 4294967295 c ^^^ (4294967295 ^^^ 4294967295 ^^^ 4294967295) by ac_rfl]
  rfl
theorem crc_nil : crc [] = 0 := by decide
set_option maxRecDepth 100000 in
theorem crc_nine : crc [49, 50, 51, 52, 53, 54, 55, 56, 57] = 3421780262 := by decide +kernel
theorem sumF_snoc : ∀ (l : List Nat) (s x : Nat), sumF s (l ++ [x]) = f8 (sumF s l ^^^ x)
  | [], _, _ => rfl
  | y :: r, s, x => sumF_snoc r (f8 (s ^^^ y)) x
theorem sumF_take (l : List Nat) (s i : Nat) (hi : i < l.length) : sumF s (l.take (i + 1)) = f8 (sumF s (l.take i) ^^^ l[i]) := by
  rw [List.take_succ_eq_append_getElem hi, sumF_snoc]
end Go.Proofs.YtbgfeogigjjmdaaDoor.Crc
