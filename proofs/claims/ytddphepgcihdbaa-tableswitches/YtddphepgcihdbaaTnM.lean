import Derived.Test.YtddphepgcihdbaaTdM
namespace Go.Proofs.Ytddphepgcihdbaa
open Go.RowKit
set_option linter.unusedVariables false
set_option linter.unusedSimpArgs false

/-- A time in which the shift stays: its first minute, the one behind its last, the shift. -/
structure Sc where
  b : Int
  e : Int
  p : Int
/-- The stretches from a minute on, where a shift stands. -/
def stL (b p : Int) : List Sh → List Sc
  | [] => [⟨b, 210379680, p⟩]
  | x :: H => ⟨b, x.m, p⟩ :: stL x.m x.plus H
/-- Numbers one behind the other. -/
def up (m : Int) : Nat → List Int
  | 0 => []
  | n + 1 => m :: up (m + 1) n
theorem up_mem (m : Int) (n : Nat) (x : Int) : x ∈ up m n ↔ m ≤ x ∧ x < m + n := by
  induction n generalizing m with
  | zero => simp [up]
  | succ n ih =>
    rw [up, List.mem_cons, ih]
    omega
theorem up_len (m : Int) (n : Nat) : (up m n).length = n := by
  induction n generalizing m with
  | zero => rfl
  | succ n ih => rw [up, List.length_cons, ih]
theorem up_sorted (m : Int) (n : Nat) : (up m n).Pairwise (· < ·) := by
  induction n generalizing m with
  | zero => exact .nil
  | succ n ih =>
    refine .cons (fun x hx => ?_) (ih _)
    rw [up_mem] at hx; omega
/-- One day's minutes of rows. -/
def dyL (t : Tt) (f l p d : Int) : List Int := ((rwF t d).map (fun r => d * 1440 + r.m - p)).filter (fun m => decide (f ≤ m) && decide (m ≤ l))
/-- The minutes of rows from one minute to another, where the shift stays. -/
def rmL (t : Tt) (f l p : Int) : List Int := (up (loF f p / 1440) (loF l p / 1440 + 1 - loF f p / 1440).toNat).flatMap (dyL t f l p)
/-- One stretch's minutes. -/
def scL (t : Tt) (b a : Int) (s : Sc) : List Int := (if b < s.b ∧ s.b < a then [s.b] else []) ++ rmL t (max b s.b + 1) (min a s.e - 1) s.p
/-- The minutes at which the slot may change. -/
def chL (t : Tt) (b a : Int) : List Int := (stL 0 0 t.H).flatMap (scL t b a)
/-- The changes that a walk over minutes meets. -/
def wlk (f : Int → Int) (now : Int) : List Int → List (Int × Int)
  | [] => []
  | m :: L => if f m = now then wlk f now L else (m, f m) :: wlk f (f m) L

theorem wlk_up (f : Int → Int) : ∀ (n : Nat) (b : Int) (L : List Int), L.Pairwise (· < ·) → (∀ x ∈ L, b < x ∧ x < b + 1 + n) → (∀ m, b < m → m < b + 1 + n → f m ≠ f (m - 1) → m ∈ L) → wlk f (f b) L = wlk f (f b) (up (b + 1) n) := by
  intro n
  induction n with
  | zero =>
    intro b L hs hb hc
    cases L with
    | nil => rfl
    | cons x L => have := hb x (List.mem_cons_self ..); omega
  | succ n ih =>
    intro b L hs hb hc
    rw [up]
    by_cases hm : b + 1 ∈ L
    · obtain ⟨L', rfl⟩ : ∃ L', L = (b + 1) :: L' := by
        cases L with
        | nil => cases hm
        | cons x L =>
          rcases List.mem_cons.1 hm with h | h
          · exact ⟨L, by rw [h]⟩
          · have h1 := (List.pairwise_cons.1 hs).1 _ h
            have h2 := hb x (List.mem_cons_self ..)
            omega
      have hL : ∀ x ∈ L', b + 1 < x ∧ x < b + 1 + 1 + n := fun x hx => by
        have h1 := (List.pairwise_cons.1 hs).1 _ hx
        have h2 := hb x (List.mem_cons_of_mem _ hx)
        constructor
        · exact h1
        · have := h2.2; push_cast at this; omega
      have hC : ∀ m, b + 1 < m → m < b + 1 + 1 + n → f m ≠ f (m - 1) → m ∈ L' := fun m h1 h2 h3 => by
        rcases List.mem_cons.1 (hc m (by omega) (by push_cast; omega) h3) with h | h
        · omega
        · exact h
      have := ih (b + 1) L' (List.pairwise_cons.1 hs).2 hL hC
      unfold wlk
      by_cases e : f (b + 1) = f b
      · rw [if_pos e, if_pos e, ← e]; exact this
      · rw [if_neg e, if_neg e, this]
    · have e : f (b + 1) = f b := by
        by_cases e : f (b + 1) = f b
        · exact e
        · exact absurd (hc (b + 1) (by omega) (by push_cast; omega) (by rw [Int.add_sub_cancel]; exact e)) hm
      have := ih (b + 1) L hs (fun x hx => by
        have h2 := hb x hx
        have : x ≠ b + 1 := fun h => hm (h ▸ hx)
        push_cast at h2
        omega) (fun m h1 h2 h3 => hc m (by omega) (by push_cast; omega) h3)
      rw [e] at this
      rw [wlk, if_pos e]
      exact this
theorem ri_tail {a : Int} {l : List Int} (h : riB (a :: l) = true) : riB l = true := by
  cases l with
  | nil => rfl
  | cons b l => simp only [riB, Bool.and_eq_true] at h; exact h.2
theorem ri_all (a : Int) : ∀ (l : List Int), riB (a :: l) = true → ∀ y ∈ l, a < y
  | [], _, y, hy => by cases hy
  | b :: l, h, y, hy => by
    simp only [riB, Bool.and_eq_true, decide_eq_true_eq] at h
    rcases List.mem_cons.1 hy with rfl | hy
    · exact h.1
    · have := ri_all b l h.2 y hy; omega
theorem ri_pw : ∀ (l : List Int), riB l = true → l.Pairwise (· < ·)
  | [], _ => .nil
  | a :: l, h => .cons (fun y hy => ri_all a l h y hy) (ri_pw l (ri_tail h))
theorem stL_begin : ∀ (H : List Sh) (b p : Int), (∀ x ∈ H, b ≤ x.m) → riB (H.map (·.m)) = true → ∀ s ∈ stL b p H, b ≤ s.b
  | [], b, p, _, _, s, hs => by simp [stL] at hs; subst hs; exact Int.le_refl _
  | x :: H, b, p, hb, ho, s, hs => by
    rcases List.mem_cons.1 hs with rfl | hs
    · exact Int.le_refl _
    · have h0 := hb x (List.mem_cons_self ..)
      have hx : ∀ y ∈ H, x.m ≤ y.m := fun y hy => by have := ri_all x.m (H.map (·.m)) (by simpa using ho) y.m (List.mem_map_of_mem hy); omega
      have := stL_begin H x.m x.plus hx (ri_tail (by simpa using ho)) s hs
      omega
theorem ri_le {x : Sh} {H : List Sh} (ho : riB ((x :: H).map (·.m)) = true) : ∀ y ∈ H, x.m ≤ y.m := fun y hy => by
  have := ri_all x.m (H.map (·.m)) (by simpa using ho) y.m (List.mem_map_of_mem hy); omega
theorem fold_stay (m : Int) : ∀ (H : List Sh) (p : Int), (∀ x ∈ H, m < x.m) → H.foldl (fun p x => if x.m ≤ m then x.plus else p) p = p
  | [], p, _ => rfl
  | x :: H, p, h => by
    rw [List.foldl_cons, if_neg (by have := h x (List.mem_cons_self ..); omega)]
    exact fold_stay m H p (fun y hy => h y (List.mem_cons_of_mem _ hy))
theorem stL_plus : ∀ (H : List Sh) (b p : Int), (∀ x ∈ H, b ≤ x.m) → riB (H.map (·.m)) = true → ∀ s ∈ stL b p H, ∀ m, s.b ≤ m → m < s.e → H.foldl (fun p x => if x.m ≤ m then x.plus else p) p = s.p
  | [], b, p, _, _, s, hs, m, _, _ => by simp [stL] at hs; subst hs; rfl
  | x :: H, b, p, hb, ho, s, hs, m, h1, h2 => by
    have hx := ri_le ho
    rcases List.mem_cons.1 hs with rfl | hs
    · refine fold_stay m _ _ (fun y hy => ?_)
      rcases List.mem_cons.1 hy with rfl | hy
      · exact h2
      · have := hx y hy; have : m < x.m := h2; omega
    · have h3 := stL_begin H x.m x.plus hx (ri_tail (by simpa using ho)) s hs
      rw [List.foldl_cons, if_pos (by omega)]
      exact stL_plus H x.m x.plus hx (ri_tail (by simpa using ho)) s hs m h1 h2
theorem stL_cover : ∀ (H : List Sh) (b p m : Int), b ≤ m → m ≤ 210379679 → ∃ s ∈ stL b p H, s.b ≤ m ∧ m < s.e
  | [], b, p, m, h1, h2 => ⟨_, List.mem_singleton.2 rfl, h1, by show m < 210379680; omega⟩
  | x :: H, b, p, m, h1, h2 => by
    by_cases h : m < x.m
    · exact ⟨_, List.mem_cons_self .., h1, h⟩
    · obtain ⟨s, hs, h3⟩ := stL_cover H x.m x.plus m (by omega) h2
      exact ⟨s, List.mem_cons_of_mem _ hs, h3⟩
theorem stL_lt : ∀ (H : List Sh) (b p : Int), riB (b :: H.map (·.m)) = true → b ≤ 210379679 → (∀ x ∈ H, x.m ≤ 210379679) → ∀ s ∈ stL b p H, s.b < s.e
  | [], b, p, _, h2, _, s, hs => by simp [stL] at hs; subst hs; show b < 210379680; omega
  | x :: H, b, p, h1, h2, h3, s, hs => by
    rcases List.mem_cons.1 hs with rfl | hs
    · exact ri_all b _ h1 x.m (List.mem_map_of_mem (List.mem_cons_self ..))
    · exact stL_lt H x.m x.plus (ri_tail h1) (h3 x (List.mem_cons_self ..)) (fun y hy => h3 y (List.mem_cons_of_mem _ hy)) s hs
theorem stL_ok (H : List Sh) (b p : Int) (h1 : riB (H.map (·.m)) = true) (hb : b ≤ 210379679) (h3 : ∀ x ∈ H, x.m ≤ 210379679) : ∀ s ∈ stL b p H, s.b < s.e ∨ s.b = b := by
  cases H with
  | nil => intro s hs; simp [stL] at hs; subst hs; left; show b < 210379680; omega
  | cons x H =>
    intro s hs
    rcases List.mem_cons.1 hs with rfl | hs
    · exact .inr rfl
    · exact .inl (stL_lt H x.m x.plus h1 (h3 x (List.mem_cons_self ..)) (fun y hy => h3 y (List.mem_cons_of_mem _ hy)) s hs)
theorem stL_pw : ∀ (H : List Sh) (b p : Int), riB (H.map (·.m)) = true → (stL b p H).Pairwise (fun s1 s2 => s1.e ≤ s2.b)
  | [], b, p, _ => List.pairwise_singleton _ _
  | x :: H, b, p, ho => .cons (fun s hs => stL_begin H x.m x.plus (ri_le ho) (ri_tail (by simpa using ho)) s hs) (stL_pw H x.m x.plus (ri_tail (by simpa using ho)))
theorem rw_ok {t : Tt} (h : t.clkB = true) (d : Int) : ∀ r ∈ rwF t d, 0 ≤ r.m ∧ r.m ≤ 1439 := by
  intro r hr
  simp only [Tt.clkB, Bool.and_eq_true, List.all_eq_true] at h
  unfold rwF at hr
  split at hr
  · rename_i x hx
    have := h.1 x (List.mem_of_getElem? hx) r hr
    simp only [rwB, inB, Bool.and_eq_true, decide_eq_true_eq] at this
    exact this.1
  · cases hr
theorem rw_ri {t : Tt} (h : t.ordB = true) (d : Int) : ((rwF t d).map (·.m)).Pairwise (· < ·) := by
  simp only [Tt.ordB, Bool.and_eq_true, List.all_eq_true] at h
  unfold rwF
  split
  · rename_i x hx
    exact ri_pw _ (h.1 x (List.mem_of_getElem? hx))
  · exact .nil
theorem dyL_mem {t : Tt} {f l p d m : Int} : m ∈ dyL t f l p d ↔ (∃ r ∈ rwF t d, d * 1440 + r.m - p = m) ∧ f ≤ m ∧ m ≤ l := by
  unfold dyL
  rw [List.mem_filter, List.mem_map]
  simp only [Bool.and_eq_true, decide_eq_true_eq]
theorem dyL_pw {t : Tt} (h : t.ordB = true) (f l p d : Int) : (dyL t f l p d).Pairwise (· < ·) := by
  unfold dyL
  refine List.Pairwise.filter _ ?_
  have := rw_ri h d
  rw [List.pairwise_map] at this ⊢
  exact this.imp (fun {a b} hab => by omega)
theorem rmL_mem {t : Tt} {f l p m : Int} : m ∈ rmL t f l p → f ≤ m ∧ m ≤ l := by
  unfold rmL
  rw [List.mem_flatMap]
  rintro ⟨d, _, hd⟩
  exact (dyL_mem.1 hd).2
theorem rmL_pw {t : Tt} (h : t.ordB = true) (h2 : t.clkB = true) (f l p : Int) : (rmL t f l p).Pairwise (· < ·) := by
  unfold rmL
  rw [List.pairwise_flatMap]
  refine ⟨fun d _ => dyL_pw h f l p d, (up_sorted _ _).imp ?_⟩
  intro d1 d2 hd x hx y hy
  obtain ⟨⟨r1, hr1, e1⟩, _⟩ := dyL_mem.1 hx
  obtain ⟨⟨r2, hr2, e2⟩, _⟩ := dyL_mem.1 hy
  have h3 := rw_ok h2 d1 r1 hr1
  have h4 := rw_ok h2 d2 r2 hr2
  omega
theorem scL_mem {t : Tt} {b a m : Int} {s : Sc} (h : m ∈ scL t b a s) : b < m ∧ m < a ∧ s.b ≤ m ∧ (m < s.e ∨ m = s.b) := by
  unfold scL at h
  rcases List.mem_append.1 h with h | h
  · split at h
    · rename_i hc
      obtain rfl := List.mem_singleton.1 h
      exact ⟨hc.1, hc.2, Int.le_refl _, .inr rfl⟩
    · cases h
  · have := rmL_mem h
    omega
theorem scL_pw {t : Tt} (h : t.ordB = true) (h2 : t.clkB = true) (b a : Int) (s : Sc) : (scL t b a s).Pairwise (· < ·) := by
  unfold scL
  rw [List.pairwise_append]
  refine ⟨by split <;> simp, rmL_pw h h2 _ _ _, ?_⟩
  intro x hx y hy
  split at hx
  · obtain rfl := List.mem_singleton.1 hx
    have := rmL_mem hy
    omega
  · cases hx
theorem shift_ok {t : Tt} (h : t.datB = true) : ∀ x ∈ t.H, 0 ≤ x.m ∧ x.m ≤ 210379679 := by
  intro x hx
  simp only [Tt.datB, Bool.and_eq_true, List.all_eq_true] at h
  have := h.2.2 x hx
  simpa [inB] using this
theorem shift_ri {t : Tt} (h : t.ordB = true) : riB (t.H.map (·.m)) = true := by
  simp only [Tt.ordB, Bool.and_eq_true] at h
  exact h.2
theorem chL_mem {t : Tt} {b a m : Int} (h : m ∈ chL t b a) : b < m ∧ m < a := by
  unfold chL at h
  obtain ⟨s, _, h⟩ := List.mem_flatMap.1 h
  have := scL_mem h
  exact ⟨this.1, this.2.1⟩
theorem chL_pw {t : Tt} (he : t.err = 0) {b : Int} (hb : 0 ≤ b) (a : Int) : (chL t b a).Pairwise (· < ·) := by
  obtain ⟨_, _, e3, _, e5, e6, e7, e8⟩ := err_zero he
  unfold chL
  rw [List.pairwise_flatMap]
  refine ⟨fun s _ => scL_pw e8 e5 b a s, ?_⟩
  have hk := stL_ok t.H 0 0 (shift_ri e8) (by omega) (fun x hx => (shift_ok e6 x hx).2)
  have := stL_pw t.H 0 0 (shift_ri e8)
  refine (List.Pairwise.and_mem.1 this).imp ?_
  rintro s1 s2 ⟨hs1, hs2, h12⟩ x hx y hy
  have h1 := scL_mem hx
  have h2 := scL_mem hy
  have h3 := hk s1 hs1
  omega
theorem lr_congr (c c' : Int) : ∀ (R : List Rw) (o : Option Rw), (∀ x ∈ R, (x.m ≤ c ↔ x.m ≤ c')) → R.foldl (fun p x => if x.m ≤ c then some x else p) o = R.foldl (fun p x => if x.m ≤ c' then some x else p) o
  | [], _, _ => rfl
  | x :: R, o, h => by
    rw [List.foldl_cons, List.foldl_cons, lr_congr c c' R _ (fun y hy => h y (List.mem_cons_of_mem _ hy))]
    congr 1
    have := h x (List.mem_cons_self ..)
    by_cases e : x.m ≤ c
    · rw [if_pos e, if_pos (this.1 e)]
    · rw [if_neg e, if_neg (fun k => e (this.2 k))]
theorem lr_last (c : Int) : ∀ (R : List Rw) (o : Option Rw), (∀ x ∈ R, x.m ≤ c) → R.foldl (fun p x => if x.m ≤ c then some x else p) o = R.getLast?.or o
  | [], o, _ => by simp
  | [x], o, h => by simp [h x (List.mem_cons_self ..)]
  | x :: y :: R, o, h => by
    rw [List.foldl_cons, if_pos (h x (List.mem_cons_self ..)), lr_last c (y :: R) _ (fun z hz => h z (List.mem_cons_of_mem _ hz)), List.getLast?_cons_cons]
    have : ((y :: R).getLast?) = some ((y :: R).getLast (by simp)) := List.getLast?_eq_some_getLast (by simp)
    rw [this]; rfl
theorem lr_mem (c : Int) : ∀ (R : List Rw) (o : Option Rw) (x : Rw), R.foldl (fun p x => if x.m ≤ c then some x else p) o = some x → (x ∈ R ∧ x.m ≤ c) ∨ o = some x
  | [], o, x, h => .inr h
  | y :: R, o, x, h => by
    rw [List.foldl_cons] at h
    rcases lr_mem c R _ x h with ⟨h1, h2⟩ | h1
    · exact .inl ⟨List.mem_cons_of_mem _ h1, h2⟩
    · split at h1
      · rename_i hc
        cases h1
        exact .inl ⟨List.mem_cons_self .., hc⟩
      · exact .inr h1
theorem rmL_of {t : Tt} {f l p m : Int} (h1 : f ≤ m) (h2 : m ≤ l) (hr : ∃ r ∈ rwF t (loF m p / 1440), loF m p / 1440 * 1440 + r.m - p = m) : m ∈ rmL t f l p := by
  unfold rmL
  rw [List.mem_flatMap]
  refine ⟨loF m p / 1440, (up_mem _ _ _).2 ?_, dyL_mem.2 ⟨hr, h1, h2⟩⟩
  have a1 : loF f p ≤ loF m p := by unfold loF; omega
  have a2 : loF m p ≤ loF l p := by unfold loF; omega
  have a3 : loF f p / 1440 ≤ loF m p / 1440 := Int.ediv_le_ediv (by omega) a1
  have a4 : loF m p / 1440 ≤ loF l p / 1440 := Int.ediv_le_ediv (by omega) a2
  omega
theorem ch_full {t : Tt} (he : t.err = 0) {b a : Int} (hb : 0 ≤ b) (ha : a ≤ 210379680) (m : Int) (h1 : b < m) (h2 : m < a) (hne : slF t m ≠ slF t (m - 1)) : m ∈ chL t b a := by
  obtain ⟨_, _, e3, _, e5, e6, e7, e8⟩ := err_zero he
  obtain ⟨s, hs, hs1, hs2⟩ := stL_cover t.H 0 0 m (by omega) (by omega)
  unfold chL
  refine List.mem_flatMap.2 ⟨s, hs, ?_⟩
  unfold scL
  by_cases hsb : s.b = m
  · refine List.mem_append.2 (.inl ?_)
    rw [if_pos (by omega), hsb]
    exact List.mem_singleton.2 rfl
  refine List.mem_append.2 (.inr ?_)
  have hx0 : ∀ x ∈ t.H, (0 : Int) ≤ x.m := fun x hx => (shift_ok e6 x hx).1
  have p1 : plG m t.H = s.p := stL_plus t.H 0 0 hx0 (shift_ri e8) s hs m hs1 hs2
  have p2 : plG (m - 1) t.H = s.p := stL_plus t.H 0 0 hx0 (shift_ri e8) s hs (m - 1) (by omega) (by omega)
  have hpb := pl_bounds e5 m
  rw [p1] at hpb
  unfold slF at hne
  rw [p1, p2] at hne
  generalize s.p = p at *
  -- the two local times
  have hd : loF m p = m + p ∧ loF (m - 1) p = m + p - 1 ∧ 1 ≤ m + p ∧ m + p ≤ 210379679 := by
    by_cases e : loF m p = loF (m - 1) p
    · rw [e] at hne; exact absurd rfl hne
    · unfold loF at e ⊢; omega
  obtain ⟨d1, d2, d3, d4⟩ := hd
  refine rmL_of (by omega) (by omega) ?_
  rw [d1]
  rw [d1, d2] at hne
  generalize hu : m + p = u at *
  by_cases hrow : ∃ r ∈ rwF t (u / 1440), r.m = u % 1440
  · obtain ⟨r, hr, hrm⟩ := hrow
    exact ⟨r, hr, by omega⟩
  exfalso
  apply hne
  by_cases hc : u % 1440 = 0
  · have q1 : (u - 1) / 1440 = u / 1440 - 1 := by omega
    have q2 : (u - 1) % 1440 = 1439 := by omega
    have q3 : ¬ u / 1440 = 0 := by omega
    have r1 : lrG (u % 1440) (rwF t (u / 1440)) = none := by
      cases h : lrG (u % 1440) (rwF t (u / 1440)) with
      | none => rfl
      | some x =>
        rcases lr_mem _ _ _ _ h with ⟨h5, h6⟩ | h5
        · exact absurd ⟨x, h5, by have := rw_ok e5 _ x h5; omega⟩ hrow
        · cases h5
    have r2 : lrG 1439 (rwF t (u / 1440 - 1)) = (rwF t (u / 1440 - 1)).getLast? := by
      unfold lrG
      rw [lr_last 1439 _ _ (fun x hx => (rw_ok e5 _ x hx).2)]
      simp
    have r3 := row_pos e7 e3 (u / 1440 - 1)
    rw [r1, q1, q2, r2]
    simp only [q3, if_false]
    have : (rwF t (u / 1440 - 1)).getLast? = some ((rwF t (u / 1440 - 1)).getLast (List.ne_nil_of_length_pos r3)) := List.getLast?_eq_some_getLast _
    rw [this]
  · have q1 : (u - 1) / 1440 = u / 1440 := by omega
    have q2 : (u - 1) % 1440 = u % 1440 - 1 := by omega
    have r1 : lrG (u % 1440) (rwF t (u / 1440)) = lrG (u % 1440 - 1) (rwF t (u / 1440)) := by
      unfold lrG
      refine lr_congr _ _ _ _ (fun x hx => ?_)
      have : x.m ≠ u % 1440 := fun e => hrow ⟨x, hx, e⟩
      omega
    rw [r1, q1, q2]
/-- The changes among the minutes that may bring one are all changes. -/
theorem wlk_ch {t : Tt} (he : t.err = 0) {b : Int} (hb : 0 ≤ b) (n : Nat) (ha : b + 1 + n ≤ 210379680) : wlk (slF t) (slF t b) (chL t b (b + 1 + n)) = wlk (slF t) (slF t b) (up (b + 1) n) :=
  wlk_up (slF t) n b _ (chL_pw he hb _) (fun x hx => chL_mem hx) (fun m h1 h2 h3 => ch_full he hb ha m h1 h2 h3)
end Go.Proofs.Ytddphepgcihdbaa
