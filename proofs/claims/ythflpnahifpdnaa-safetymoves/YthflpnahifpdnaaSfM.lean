import Derived.Test.YthflpnahifpdnaaRuM
namespace Go.Proofs.Ythflpnahifpdnaa
open Go.RowKit
set_option linter.unusedVariables false

theorem beg_held {G : List Gp} {C : List Cf} {A W : List Int} {M : Nat} {f0 : Nat → Int} (j : Nat) : ∀ m, begF G C A W M f0 m j = f0 j ∨ (A.getD j 0 = 0 ∧ begF G C A W M f0 m j = firstF (G.getD j gp0) ∧ (heldM W C C.length).testBit j = false) := by
  intro m
  induction m with
  | zero => exact .inl rfl
  | succ m ih =>
    unfold begF
    by_cases hs : startB C A W M G.length (begF G C A W M f0 m) m = true
    · rw [if_pos hs]
      unfold updF
      by_cases e : j = m
      · subst e
        rw [if_pos rfl]
        unfold startB at hs
        simp only [Bool.and_eq_true, decide_eq_true_eq, Bool.not_eq_true'] at hs
        exact .inr ⟨hs.1, rfl, hs.2.2.1⟩
      · rw [if_neg e]; exact ih
    · rw [if_neg hs]; exact ih

/-- What one group shows, picture by picture, and for how long. -/
structure Ln (g : Gp) (f c : Nat → Int) : Prop where
  f0 : f 0 = 0
  c0 : c 0 = 1
  cs : ∀ k, c (k + 1) = if f (k + 1) = f k then upF (c k) else 1
  red : ∀ k, f k = 0 → f (k + 1) = 0 ∨ f (k + 1) = firstF g
  led : ∀ k, f k = 1 → f (k + 1) = if c k < g.lead then 1 else 2
  grn : ∀ k, f k = 2 → f (k + 1) = 2 ∨ (g.min ≤ c k ∧ f (k + 1) = if 0 < g.amber then 3 else 0)
  amb : ∀ k, f k = 3 → f (k + 1) = if c k < g.amber then 3 else 0
  four : ∀ k, f k = 0 ∨ f k = 1 ∨ f k = 2 ∨ f k = 3
  pos : ∀ k, 1 ≤ c k
  up1 : ∀ k, f k = 1 → c k ≤ g.lead
  up3 : ∀ k, f k = 3 → c k ≤ g.amber
  l0 : 0 ≤ g.lead
  l1 : g.lead ≤ 60
  a0 : 0 ≤ g.amber
  a1 : g.amber ≤ 60

theorem upF_le {x : Int} (h : 0 ≤ x) : upF x ≤ x + 1 ∧ (x < 2147483647 → upF x = x + 1) := by
  unfold upF
  by_cases e : x = 2147483647
  · rw [if_pos e]; omega
  · rw [if_neg e, if_neg (by omega)]; omega

/-- A stretch: from s on the same letter up to e. -/
def Str (f c : Nat → Int) (v : Int) (s e : Nat) : Prop := s ≤ e ∧ (s < e → c s = 1) ∧ ∀ t, s ≤ t → t < e → f t = v

theorem Str.more {f c : Nat → Int} {v : Int} {s e : Nat} (h : Str f c v s e) (hc : s = e → c s = 1) (hv : f e = v) : Str f c v s (e + 1) :=
  ⟨by have := h.1; omega, fun _ => by
    by_cases q : s = e
    · exact hc q
    · exact h.2.1 (by have := h.1; omega), fun t t1 t2 => by
    by_cases q : t = e
    · subst q; exact hv
    · exact h.2.2 t t1 (by omega)⟩

theorem Ln.len {g : Gp} {f c : Nat → Int} (L : Ln g f c) {v : Int} {s e : Nat} (h : Str f c v s e) : ∀ d, s + d < e → c (s + d) ≤ (d : Int) + 1 ∧ ((d : Int) < 2147483647 → c (s + d) = (d : Int) + 1) := by
  intro d
  induction d with
  | zero => intro hd; rw [Nat.add_zero] at hd ⊢; rw [h.2.1 hd]; constructor <;> intros <;> omega
  | succ d ih =>
    intro hd
    have ih := ih (by omega)
    have e1 := h.2.2 (s + d) (by omega) (by omega)
    have e2 := h.2.2 (s + d + 1) (by omega) (by omega)
    have := L.cs (s + d)
    rw [e1, e2, if_pos rfl] at this
    have p := L.pos (s + d)
    have u := upF_le (x := c (s + d)) (by omega)
    rw [show s + (d + 1) = s + d + 1 by omega, this]
    constructor
    · have := u.1; omega
    · intro hq
      rw [u.2 (by have := ih.2 (by omega); omega), ih.2 (by omega)]; omega

theorem Ln.last {g : Gp} {f c : Nat → Int} (L : Ln g f c) {v : Int} {s e : Nat} (h : Str f c v s e) (hse : s < e) : f (e - 1) = v ∧ c (e - 1) ≤ (e : Int) - s ∧ ((e : Int) - s ≤ 2147483647 → c (e - 1) = (e : Int) - s) := by
  have := L.len h (e - 1 - s) (by omega)
  rw [show s + (e - 1 - s) = e - 1 by omega] at this
  refine ⟨h.2.2 _ (by omega) (by omega), by have := this.1; omega, fun q => ?_⟩
  rw [this.2 (by omega)]; omega

theorem Ln.new {g : Gp} {f c : Nat → Int} (L : Ln g f c) {v : Int} {s e : Nat} (h : Str f c v s e) (hse : s < e) (hv : f e ≠ v) : c e = 1 := by
  have := L.cs (e - 1)
  rw [show e - 1 + 1 = e by omega, if_neg (by rw [(L.last h hse).1]; exact hv)] at this
  exact this

/-- Behind a red stretch. -/
theorem Ln.of_red {g : Gp} {f c : Nat → Int} (L : Ln g f c) {s e : Nat} (h : Str f c 0 s e) (hse : s < e) (hv : f e ≠ 0) : f e = firstF g ∧ c e = 1 := by
  refine ⟨?_, L.new h hse hv⟩
  have := L.red (e - 1) (L.last h hse).1
  rw [show e - 1 + 1 = e by omega] at this
  exact this.resolve_left hv

/-- A lead that goes on to the end. -/
theorem Ln.led_end {g : Gp} {f c : Nat → Int} (L : Ln g f c) {s e : Nat} (h : Str f c 1 s e) : (e : Int) - s ≤ g.lead := by
  have := L.l0
  by_cases hse : s < e
  · have q := L.len h (min (e - 1 - s) 61) (by omega)
    have u := L.up1 (s + min (e - 1 - s) 61) (h.2.2 _ (by omega) (by omega))
    have := L.l1
    rw [q.2 (by omega)] at u
    omega
  · have := h.1; omega
theorem Ln.amb_end {g : Gp} {f c : Nat → Int} (L : Ln g f c) {s e : Nat} (h : Str f c 3 s e) : (e : Int) - s ≤ g.amber := by
  have := L.a0
  by_cases hse : s < e
  · have q := L.len h (min (e - 1 - s) 61) (by omega)
    have u := L.up3 (s + min (e - 1 - s) 61) (h.2.2 _ (by omega) (by omega))
    have := L.a1
    rw [q.2 (by omega)] at u
    omega
  · have := h.1; omega
/-- Behind a lead (which may be none). -/
theorem Ln.of_led {g : Gp} {f c : Nat → Int} (L : Ln g f c) {s e : Nat} (h : Str f c 1 s e) (hs : f s = firstF g) (hc : c s = 1) (hv : f e ≠ 1) : f e = 2 ∧ c e = 1 ∧ (e : Int) - s = g.lead := by
  have l0 := L.l0
  have l1 := L.l1
  by_cases hse : s < e
  · have z := L.led_end h
    have q := L.last h hse
    have n := L.led (e - 1) q.1
    rw [show e - 1 + 1 = e by omega] at n
    have cq := q.2.2 (by omega)
    refine ⟨?_, L.new h hse hv, ?_⟩
    · by_cases d : c (e - 1) < g.lead
      · rw [if_pos d] at n; exact absurd n hv
      · rw [if_neg d] at n; exact n
    · by_cases d : c (e - 1) < g.lead
      · rw [if_pos d] at n; exact absurd n hv
      · omega
  · have e0 : s = e := by have := h.1; omega
    subst e0
    unfold firstF at hs
    by_cases d : 0 < g.lead
    · rw [if_pos d] at hs; exact absurd hs hv
    · rw [if_neg d] at hs; exact ⟨hs, hc, by omega⟩
/-- Behind a green. -/
theorem Ln.of_grn {g : Gp} {f c : Nat → Int} (L : Ln g f c) {s e : Nat} (h : Str f c 2 s e) (hs : f s = 2) (hv : f e ≠ 2) : s < e ∧ (f e = if 0 < g.amber then 3 else 0) ∧ c e = 1 ∧ g.min ≤ (e : Int) - s := by
  have hse : s < e := by
    by_cases q : s < e
    · exact q
    · have : s = e := by have := h.1; omega
      subst this; exact absurd hs hv
  have q := L.last h hse
  have n := L.grn (e - 1) q.1
  rw [show e - 1 + 1 = e by omega] at n
  have n := n.resolve_left hv
  exact ⟨hse, n.2, L.new h hse hv, by have := n.1; have := q.2.1; omega⟩
/-- Behind an amber (which may be none). -/
theorem Ln.of_amb {g : Gp} {f c : Nat → Int} (L : Ln g f c) {s e : Nat} (h : Str f c 3 s e) (hs : f s = if 0 < g.amber then 3 else 0) (hc : c s = 1) (hv : f e ≠ 3) : f e = 0 ∧ c e = 1 ∧ (e : Int) - s = g.amber := by
  have l0 := L.a0
  have l1 := L.a1
  by_cases hse : s < e
  · have z := L.amb_end h
    have q := L.last h hse
    have n := L.amb (e - 1) q.1
    rw [show e - 1 + 1 = e by omega] at n
    have cq := q.2.2 (by omega)
    refine ⟨?_, L.new h hse hv, ?_⟩
    · by_cases d : c (e - 1) < g.amber
      · rw [if_pos d] at n; exact absurd n hv
      · rw [if_neg d] at n; exact n
    · by_cases d : c (e - 1) < g.amber
      · rw [if_pos d] at n; exact absurd n hv
      · omega
  · have e0 : s = e := by have := h.1; omega
    subst e0
    by_cases d : 0 < g.amber
    · rw [if_pos d] at hs; exact absurd hs hv
    · rw [if_neg d] at hs; exact ⟨hs, hc, by omega⟩

/-- Of a run: every group's line. -/
theorem run_next {G : List Gp} {C : List Cf} {Ms : List Nat} (k j : Nat) (hj : j < G.length) :
    ((∃ b, (runF G C Ms (k + 1)).a j = aloneF (G.getD j gp0) ((runF G C Ms k).a j) ((runF G C Ms k).i j) b) ∨ ((runF G C Ms k).a j = 0 ∧ (runF G C Ms (k + 1)).a j = firstF (G.getD j gp0) ∧ (heldM (lst64 G.length (runF G C Ms k).w) C C.length).testBit j = false))
    ∧ (runF G C Ms (k + 1)).i j = (if (runF G C Ms (k + 1)).a j = (runF G C Ms k).a j then upF ((runF G C Ms k).i j) else 1)
    ∧ (runF G C Ms (k + 1)).w j = (if (runF G C Ms (k + 1)).a j = 2 then 0 else upF ((runF G C Ms k).w j)) := by
  have e : runF G C Ms (k + 1) = F3.next G C (runF G C Ms k) (Ms.getD k 0) := rfl
  rw [e]
  generalize runF G C Ms k = h
  unfold F3.next
  have e1 := lst_getD (f := h.a) hj
  have e2 := lst_getD (f := h.i) hj
  have e3 := lst_getD (f := h.w) hj
  refine ⟨?_, ?_, ?_⟩
  · dsimp only
    unfold nxF
    rcases beg_held (G := G) (C := C) (A := lst64 G.length h.a) (W := lst64 G.length h.w) (M := Ms.getD k 0) (f0 := alF G (lst64 G.length h.a) (lst64 G.length h.i) (Ms.getD k 0)) j G.length with q | ⟨q1, q2, q3⟩
    · left
      refine ⟨(Ms.getD k 0).testBit j, q.trans ?_⟩
      unfold alF
      rw [e1, e2]
    · right
      rw [e1] at q1
      exact ⟨q1, q2, q3⟩
  · dsimp only
    unfold inF
    rw [e1, e2]
  · dsimp only
    unfold awF
    rw [e3]

theorem run_ln {G : List Gp} {C : List Cf} (hg : gridB G C = true) (Ms : List Nat) (j : Nat) (hj : j < G.length) : Ln (G.getD j gp0) (fun k => (runF G C Ms k).a j) (fun k => (runF G C Ms k).i j) := by
  have hgp : gpB (G.getD j gp0) = true := by
    unfold gridB at hg
    simp only [Bool.and_eq_true, List.all_eq_true] at hg
    rw [show G.getD j gp0 = G[j] by simp [List.getD_eq_getElem?_getD, hj]]
    exact hg.2.1 _ (List.getElem_mem hj)
  unfold gpB timeB amberB at hgp
  simp only [Bool.and_eq_true, Bool.or_eq_true, decide_eq_true_eq] at hgp
  have fit : ∀ k, fitB (G.getD j gp0) ((runF G C Ms k).a j) ((runF G C Ms k).i j) ((runF G C Ms k).w j) = true := by
    intro k
    have ok := (okf_run hg Ms k).1
    unfold fitsB at ok
    simp only [Bool.and_eq_true, decide_eq_true_eq] at ok
    have := fitsF_get ok.2.2.2.1 ok.1 ok.2.1 ok.2.2.1 j hj
    rw [lst_get, lst_get, lst_get] at this
    rw [show G.getD j gp0 = G[j] by simp [List.getD_eq_getElem?_getD, hj]]
    exact this
  have fit' : ∀ k, 1 ≤ (runF G C Ms k).i j ∧ ((runF G C Ms k).a j = 0 ∨ (runF G C Ms k).a j = 2 ∨ ((runF G C Ms k).a j = 1 ∧ (runF G C Ms k).i j ≤ (G.getD j gp0).lead) ∨ ((runF G C Ms k).a j = 3 ∧ (runF G C Ms k).i j ≤ (G.getD j gp0).amber)) := by
    intro k
    have h := fit k
    unfold fitB at h
    simp only [Bool.and_eq_true, Bool.or_eq_true, decide_eq_true_eq] at h
    exact ⟨h.1, h.2.2.2⟩
  refine ⟨rfl, rfl, fun k => (run_next k j hj).2.1, ?_, ?_, ?_, ?_, ?_, fun k => (fit' k).1, ?_, ?_, hgp.2.2.2.2.1, hgp.2.2.2.2.2, hgp.2.2.2.1.1, hgp.2.2.2.1.2⟩
  · intro k hk
    (try dsimp only at hk ⊢)
    rcases (run_next (G := G) (Ms := Ms) (C := C) k j hj).1 with ⟨b, q⟩ | ⟨-, q, -⟩
    · rw [hk] at q; rw [q]; unfold aloneF; simp
    · exact .inr q
  · intro k hk
    (try dsimp only at hk ⊢)
    rcases (run_next (G := G) (Ms := Ms) (C := C) k j hj).1 with ⟨b, q⟩ | ⟨q, -, -⟩
    · rw [hk] at q; rw [q]; unfold aloneF; simp
    · omega
  · intro k hk
    (try dsimp only at hk ⊢)
    rcases (run_next (G := G) (Ms := Ms) (C := C) k j hj).1 with ⟨b, q⟩ | ⟨q, -, -⟩
    · rw [hk] at q; rw [q]; unfold aloneF
      rw [if_pos rfl]
      by_cases d1 : b = true
      · rw [if_pos d1]; exact .inl rfl
      · rw [if_neg d1]
        by_cases d2 : (runF G C Ms k).i j < (G.getD j gp0).min
        · rw [if_pos d2]; exact .inl rfl
        · rw [if_neg d2]; exact .inr ⟨by omega, rfl⟩
    · omega
  · intro k hk
    (try dsimp only at hk ⊢)
    rcases (run_next (G := G) (Ms := Ms) (C := C) k j hj).1 with ⟨b, q⟩ | ⟨q, -, -⟩
    · rw [hk] at q; rw [q]; unfold aloneF; simp
    · omega
  · intro k
    have := (fit' k).2
    (try dsimp only)
    omega
  · intro k hk
    have := (fit' k).2
    (try dsimp only at hk ⊢)
    omega
  · intro k hk
    have := (fit' k).2
    (try dsimp only at hk ⊢)
    omega

/-- The last picture ahead of the k-th in which group j is green. -/
def lastF (f : Nat → Int) : Nat → Int
  | 0 => -1
  | k + 1 => if f k = 2 then (k : Int) else lastF f k
theorem lastF_rng (f : Nat → Int) : ∀ k : Nat, -1 ≤ lastF f k ∧ lastF f k < (k : Int)
  | 0 => by unfold lastF; omega
  | k + 1 => by
    have := lastF_rng f k
    unfold lastF
    by_cases h : f k = 2
    · rw [if_pos h]; omega
    · rw [if_neg h]; omega
theorem run_away {G : List Gp} {C : List Cf} (hg : gridB G C = true) (Ms : List Nat) (j : Nat) (hj : j < G.length) : ∀ k : Nat, 0 ≤ (runF G C Ms k).w j ∧ (runF G C Ms k).w j ≤ (k : Int) - lastF (fun t => (runF G C Ms t).a j) (k + 1) := by
  intro k
  induction k with
  | zero =>
    have e1 : (runF G C Ms 0).w j = 1 := rfl
    have e2 : lastF (fun t => (runF G C Ms t).a j) 1 = -1 := by
      unfold lastF
      rw [if_neg (by show ¬ (0 : Int) = 2; decide)]
      rfl
    rw [e1]
    simp only [Nat.zero_add]
    rw [e2]; omega
  | succ k ih =>
    rw [(run_next k j hj).2.2]
    conv => rhs; rhs; rhs; unfold lastF
    (try dsimp only)
    by_cases h : (runF G C Ms (k + 1)).a j = 2
    · rw [if_pos h, if_pos h]; omega
    · rw [if_neg h, if_neg h]
      have u := (upF_le (x := (runF G C Ms k).w j) ih.1).1
      have : 0 ≤ upF ((runF G C Ms k).w j) := by
        unfold upF
        by_cases e : (runF G C Ms k).w j = 2147483647
        · rw [if_pos e]; omega
        · rw [if_neg e, if_neg (by omega)]; omega
      omega
theorem grid_cfm {G : List Gp} {C : List Cf} (hg : gridB G C = true) : ∀ c ∈ C, 0 ≤ c.a ∧ c.a < c.b ∧ c.b < (G.length : Int) := by
  intro c hc
  obtain ⟨i, hi, e⟩ := List.getElem_of_mem hc
  have := grid_cf hg i hi
  rw [e] at this
  exact ⟨this.1, this.2.1, this.2.2.1⟩
theorem run_clear {G : List Gp} {C : List Cf} (hg : gridB G C = true) (Ms : List Nat) (k : Nat) : ∀ c ∈ C, (runF G C Ms k).a c.a.toNat = 0 ∨ (runF G C Ms k).a c.b.toNat = 0 := by
  intro c hc
  have b := grid_cfm hg c hc
  have ok := (okf_run hg Ms k).1
  unfold fitsB at ok
  simp only [Bool.and_eq_true, decide_eq_true_eq] at ok
  have := clearF_get ok.2.2.2.2 c hc
  unfold atI at this
  rw [lst_getD (by omega), lst_getD (by omega)] at this
  exact this
/-- Every intergreen is kept. -/
theorem run_inter {G : List Gp} {C : List Cf} (hg : gridB G C = true) (Ms : List Nat) : ∀ k : Nat, ∀ c ∈ C,
    ((runF G C Ms k).a c.b.toNat ≠ 0 → c.ab < (k : Int) - lastF (fun t => (runF G C Ms t).a c.a.toNat) k) ∧
    ((runF G C Ms k).a c.a.toNat ≠ 0 → c.ba < (k : Int) - lastF (fun t => (runF G C Ms t).a c.b.toNat) k) := by
  intro k
  induction k with
  | zero => intro c hc; exact ⟨fun h => absurd rfl h, fun h => absurd rfl h⟩
  | succ k ih =>
    intro c hc
    have b := grid_cfm hg c hc
    have ih := ih c hc
    have cl := run_clear hg Ms k c hc
    have held : ∀ x, (heldM (lst64 G.length (runF G C Ms k).w) C C.length).testBit x = false → holds (lst64 G.length (runF G C Ms k).w) x c = false := by
      intro x hx
      rw [heldM_bit _ _ _ _ (Nat.le_refl _), List.take_length, List.any_eq_false] at hx
      have := hx c hc
      simpa using this
    have al : ∀ x, (runF G C Ms k).a x = 0 → ∀ (g : Gp) (i : Int) (bb : Bool), aloneF g ((runF G C Ms k).a x) i bb = 0 := by
      intro x hx g i bb; rw [hx]; exact alone_red
    constructor
    · intro h
      rcases (run_next (G := G) (Ms := Ms) (C := C) k c.b.toNat (by omega)).1 with ⟨bb, q⟩ | ⟨q1, q2, q3⟩
      · have hb : (runF G C Ms k).a c.b.toNat ≠ 0 := fun z => h (q.trans (al _ z _ _ _))
        have ha := cl.resolve_right hb
        have r := ih.1 hb
        unfold lastF
        rw [if_neg (by rw [ha]; decide)]
        omega
      · have hh := held _ q3
        unfold holds at hh
        simp only [Bool.or_eq_false_iff, Bool.and_eq_false_iff, decide_eq_false_iff_not, not_true, or_false] at hh
        have w1 := hh.1
        unfold atI at w1
        rw [lst_getD (by omega)] at w1
        have w2 := (run_away hg Ms c.a.toNat (by omega) k).2
        omega
    · intro h
      rcases (run_next (G := G) (Ms := Ms) (C := C) k c.a.toNat (by omega)).1 with ⟨bb, q⟩ | ⟨q1, q2, q3⟩
      · have hb : (runF G C Ms k).a c.a.toNat ≠ 0 := fun z => h (q.trans (al _ z _ _ _))
        have ha := cl.resolve_left hb
        have r := ih.2 hb
        unfold lastF
        rw [if_neg (by rw [ha]; decide)]
        omega
      · have hh := held _ q3
        unfold holds at hh
        simp only [Bool.or_eq_false_iff, Bool.and_eq_false_iff, decide_eq_false_iff_not, not_true, or_false] at hh
        have w1 := hh.2
        unfold atI at w1
        rw [lst_getD (by omega)] at w1
        have w2 := (run_away hg Ms c.b.toNat (by omega) k).2
        omega
end Go.Proofs.Ythflpnahifpdnaa
