import Derived.Test.YtddphepgcihdbaaTnI
namespace Go.Proofs.Ytddphepgcihdbaa
open Go.RowKit Go.Shelf
set_option linter.unusedVariables false
set_option linter.unusedSimpArgs false

/-- From p on: what is in force, and then the switches r, up to the end e. -/
def Stp (f : Int → Int) (e : Int) : Int × Int → List (Int × Int) → Prop
  | p, [] => p.1 < e ∧ p.2 = f p.1 ∧ ∀ x, p.1 ≤ x → x < e → f x = p.2
  | p, q :: r => p.1 < q.1 ∧ p.2 = f p.1 ∧ q.2 ≠ p.2 ∧ (∀ x, p.1 ≤ x → x < q.1 → f x = p.2) ∧ Stp f e q r
theorem stp_wlk (f : Int → Int) : ∀ (n : Nat) (a0 a now : Int), a0 < a → now = f a0 → (∀ x, a0 ≤ x → x < a → f x = now) → Stp f (a + n) (a0, now) (wlk f now (up a n)) := by
  intro n
  induction n with
  | zero =>
    intro a0 a now h1 h2 h3
    exact ⟨by simpa using h1, h2, fun x hx hx2 => h3 x hx (by simpa using hx2)⟩
  | succ n ih =>
    intro a0 a now h1 h2 h3
    have ee : a + ((n + 1 : Nat) : Int) = a + 1 + (n : Int) := by omega
    rw [up, wlk, ee]
    by_cases hf : f a = now
    · rw [if_pos hf]
      refine ih a0 (a + 1) now (by omega) h2 (fun x hx hx2 => ?_)
      by_cases hxa : x = a
      · rw [hxa]; exact hf
      · exact h3 x hx (by omega)
    · rw [if_neg hf]
      refine ⟨h1, h2, hf, h3, ih a (a + 1) (f a) (by omega) rfl (fun x hx hx2 => ?_)⟩
      rw [show x = a by omega]
theorem stp_lt (f : Int → Int) (e : Int) : ∀ (r : List (Int × Int)) (p : Int × Int), Stp f e p r → p.1 < e ∧ p.2 = f p.1
  | [], _, h => ⟨h.1, h.2.1⟩
  | q :: r, p, h => ⟨by have := (stp_lt f e r q h.2.2.2.2).1; have := h.1; omega, h.2.1⟩
/-- At each place of the list. -/
theorem stp_at (f : Int → Int) (e : Int) : ∀ (r : List (Int × Int)) (p : Int × Int), Stp f e p r → ∀ (k : Nat) (hk : k < (p :: r).length), Stp f e (p :: r)[k] (r.drop k)
  | [], p, h, 0, _ => h
  | [], _, _, k + 1, hk => by simp at hk
  | q :: r, p, h, 0, _ => h
  | q :: r, p, h, k + 1, hk => stp_at f e r q h.2.2.2.2 k (by simpa using hk)
/-- What Switches' pairs are. -/
structure Pw (f : Int → Int) (b e : Int) (P : List (Int × Int)) : Prop where
  ne : 0 < P.length
  first : ∀ (h : 0 < P.length), P[0].1 = b
  lo : ∀ (k : Nat) (hk : k < P.length), b ≤ P[k].1
  hi : ∀ (k : Nat) (hk : k < P.length), P[k].1 < e ∧ P[k].2 = f P[k].1
  up : ∀ (k : Nat) (hk : k + 1 < P.length), P[k].1 < P[k + 1].1 ∧ P[k + 1].2 ≠ P[k].2
  stay : ∀ (k : Nat) (hk : k + 1 < P.length) (x : Int), P[k].1 ≤ x → x < P[k + 1].1 → f x = P[k].2
  last : ∀ (k : Nat) (hk : k < P.length), k + 1 = P.length → ∀ x, P[k].1 ≤ x → x < e → f x = P[k].2
theorem pw_of {f : Int → Int} {b e : Int} {r : List (Int × Int)} {s : Int} (h : Stp f e (b, s) r) : Pw f b e ((b, s) :: r) := by
  have hat := stp_at f e r (b, s) h
  have hup : ∀ (k : Nat) (hk : k + 1 < ((b, s) :: r).length), ((b, s) :: r)[k].1 < ((b, s) :: r)[k + 1].1 ∧ ((b, s) :: r)[k + 1].2 ≠ ((b, s) :: r)[k].2 ∧ ∀ x, ((b, s) :: r)[k].1 ≤ x → x < ((b, s) :: r)[k + 1].1 → f x = ((b, s) :: r)[k].2 := by
    intro k hk
    have hk' : k < r.length := by simpa using hk
    have h2 := hat k (by omega)
    rw [List.drop_eq_getElem_cons hk'] at h2
    exact ⟨h2.1, h2.2.2.1, h2.2.2.2.1⟩
  refine ⟨by simp, fun _ => rfl, ?_, fun k hk => stp_lt f e _ _ (hat k hk), fun k hk => ⟨(hup k hk).1, (hup k hk).2.1⟩, fun k hk x => (hup k hk).2.2 x, ?_⟩
  · intro k
    induction k with
    | zero => intro _; exact Int.le_refl _
    | succ k ih => intro hk; have := ih (by omega); have := (hup k hk).1; omega
  · intro k hk hl x
    have h2 := hat k hk
    have hl' : r.length = k := by simp at hl; omega
    rw [List.drop_of_length_le (by omega)] at h2
    exact h2.2.2 x
theorem pw_prL {t : Tt} {b a : Int} (h1 : t.err = 0) (h2 : 0 ≤ b) (h3 : a ≤ 210379679) (h4 : b < a) (h5 : a - b ≤ 44640) : Pw (slF t) b a (prL t b a) := by
  rw [prL_yes h1 h2 h3 h4 h5]
  refine pw_of ?_
  have h := stp_wlk (slF t) (a - b - 1).toNat b (b + 1) (slF t b) (by omega) rfl (fun x hx hx2 => by rw [show x = b by omega])
  rw [show b + 1 + ((a - b - 1).toNat : Int) = a by omega] at h
  exact h
theorem up_split (a : Int) : ∀ (n k : Nat), k < n → up a n = up a k ++ (a + (k : Int)) :: up (a + (k : Int) + 1) (n - k - 1) := by
  intro n
  induction n generalizing a with
  | zero => intro k hk; omega
  | succ n ih =>
    intro k hk
    cases k with
    | zero => simp [up]
    | succ k =>
      rw [up, up, ih (a + 1) k (by omega)]
      rw [show a + 1 + (k : Int) = a + ((k + 1 : Nat) : Int) by omega, show n - k - 1 = n + 1 - (k + 1) - 1 by omega]
      rfl
theorem wlk_head {f : Int → Int} {now : Int} : ∀ (L : List Int) (p : Int × Int), (wlk f now L).head? = some p → p.1 ∈ L ∧ f p.1 ≠ now
  | [], p, h => by simp [wlk] at h
  | x :: L, p, h => by
    rw [wlk] at h
    by_cases hx : f x = now
    · rw [if_pos hx] at h
      obtain ⟨h1, h2⟩ := wlk_head L p h
      exact ⟨List.mem_cons_of_mem _ h1, h2⟩
    · rw [if_neg hx] at h
      simp only [List.head?_cons, Option.some.injEq] at h
      subst h
      exact ⟨List.mem_cons_self .., hx⟩
theorem er_ok {t : Tt} {m : Int} (h : t.err = 0) (h0 : 0 ≤ m) (h1 : m ≤ 210379679) : erF t m 210379679 = 0 := by
  unfold erF
  rw [if_pos h, if_pos ⟨h0, h1⟩]
/-- Next, asked ahead of a switch that is near. -/
theorem nx_near {t : Tt} {m q : Int} (h : t.err = 0) (h0 : 0 ≤ m) (h1 : m < q) (h2 : q - m ≤ 20160) (h3 : q ≤ 210379679) (hs : ∀ x, m ≤ x → x < q → slF t x = slF t m) (hq : slF t q ≠ slF t m) : nxM t m = q ∧ nxS t m = slF t q := by
  have hN : (ahN m : Int) = min (m + 20160) 210379679 - m := by unfold ahN; omega
  have hk : (q - m - 1).toNat < ahN m := by omega
  have e : nxP t m = (q, slF t q) := by
    unfold nxP
    rw [up_split (m + 1) (ahN m) _ hk, show m + 1 + (((q - m - 1).toNat : Nat) : Int) = q by omega, wlk_first]
    · intro x hx
      rw [up_mem] at hx
      exact hs x (by omega) (by omega)
    · exact hq
  unfold nxM nxS
  rw [er_ok h h0 (by omega), if_pos rfl, if_pos rfl, e]
  exact ⟨rfl, rfl⟩
/-- Next, where nothing switches up to e, or not within what it looks at. -/
theorem nx_far {t : Tt} {m e : Int} (h : t.err = 0) (h0 : 0 ≤ m) (h1 : m ≤ 210379679) (hs : ∀ x, m ≤ x → x < e → slF t x = slF t m) : (nxM t m < 0 ∧ nxS t m = slF t m) ∨ (0 ≤ nxM t m ∧ (e ≤ nxM t m) ∧ nxM t m ≤ m + 20160) := by
  unfold nxM nxS
  rw [er_ok h h0 h1, if_pos rfl, if_pos rfl]
  unfold nxP
  cases hh : (wlk (slF t) (slF t m) (up (m + 1) (ahN m))).head? with
  | none => exact .inl ⟨by simp, by simp⟩
  | some p =>
    obtain ⟨h2, h3⟩ := wlk_head _ _ hh
    rw [up_mem] at h2
    have hN : (ahN m : Int) = min (m + 20160) 210379679 - m := by unfold ahN; omega
    refine .inr ⟨by show 0 ≤ p.1; omega, ?_, by show p.1 ≤ _; omega⟩
    show e ≤ p.1
    by_cases hlt : p.1 < e
    · exact absurd (hs p.1 (by omega) hlt) h3
    · omega
end Go.Proofs.Ytddphepgcihdbaa
