import Derived.Test.YtoaokpmnjppfcaaWbB
namespace Go.Proofs.Ytoaokpmnjppfcaa
open Go.RowKit
set_option linter.unusedVariables false
set_option linter.unusedSimpArgs false

def erA (f : Nat → Lm) (tk : Int) (s : ByteArray) (a b : Nat) (n : Int) : Al := if erF (tnF f tk s a) (tnF f tk s b) n = 0 then al0 else ⟨erF (tnF f tk s a) (tnF f tk s b) n, tk, a, b⟩
def boB (f : Nat → Lm) (tk : Int) (s : ByteArray) (a b : Nat) : Bool := awB (tnF f tk s a).now && (awB (tnF f tk s b).now && !(awB (tnF f tk s a).was && awB (tnF f tk s b).was))
theorem put_er {t : Int} {y : Al} {e a b : Int} (h : Pz t y) : put y (!decide (e = 0)) ⟨e, t, a, b⟩ = leF y (if e = 0 then al0 else ⟨e, t, a, b⟩) := by
  by_cases he : e = 0
  · rw [if_pos he, le_none h, he]; rfl
  · rw [if_neg he, put_le h rfl he, if_pos (by simp [he])]
theorem pz_er (f : Nat → Lm) (tk : Int) (s : ByteArray) (a b : Nat) (n : Int) : Pz tk (erA f tk s a b n) := by
  unfold erA
  split
  · exact ⟨fun _ => rfl, fun e => absurd rfl e⟩
  · rename_i h; exact ⟨fun e => absurd e h, fun _ => rfl⟩
def pcF (f : Nat → Lm) (tk : Int) (s : ByteArray) (x : Al) (c : Cf) : Al :=
  leF (leF (if boB f tk s c.a.toNat c.b.toNat = true then leF x ⟨7, tk, c.a, c.b⟩ else x) (erA f tk s c.a.toNat c.b.toNat c.ab)) (erA f tk s c.b.toNat c.a.toNat c.ba)
theorem pr_pc {f : Nat → Lm} {tk : Int} {s : ByteArray} {x : Al} {c : Cf} (h : Pz tk x) (ha : 0 ≤ c.a) (hb : 0 ≤ c.b) : prF x c (tnF f tk s c.a.toNat) (tnF f tk s c.b.toNat) = pcF f tk s x c := by
  unfold prF pcF erA boB
  have e1 : ((c.a.toNat : Nat) : Int) = c.a := Int.toNat_of_nonneg ha
  have e2 : ((c.b.toNat : Nat) : Int) = c.b := Int.toNat_of_nonneg hb
  rw [e1, e2]
  have et : (tnF f tk s c.a.toNat).t = tk := rfl
  rw [et]
  have h7 : Pz tk (⟨7, tk, c.a, c.b⟩ : Al) := ⟨fun e => absurd e (by show ¬ (7 : Int) = 0; decide), fun _ => rfl⟩
  rw [put_le h rfl (by show (7 : Int) ≠ 0; decide)]
  generalize hq : (if (awB (tnF f tk s c.a.toNat).now && (awB (tnF f tk s c.b.toNat).now && !(awB (tnF f tk s c.a.toNat).was && awB (tnF f tk s c.b.toNat).was))) = true then leF x ⟨7, tk, c.a, c.b⟩ else x) = q
  have hq' : Pz tk q := by
    rw [← hq]
    split
    · exact pz_le h h7
    · exact h
  rw [put_er hq']
  have hy : ∀ (e a b : Int), Pz tk (if e = 0 then al0 else (⟨e, tk, a, b⟩ : Al)) := fun e a b => by
    split
    · exact ⟨fun _ => rfl, fun e => absurd rfl e⟩
    · rename_i h; exact ⟨fun e => absurd e h, fun _ => rfl⟩
  rw [put_er (pz_le hq' (hy _ _ _))]
def rgN (G : List Gp) (f : Nat → Lm) (tk : Int) (s : ByteArray) : Nat → Al
  | 0 => al0
  | k + 1 => leF (rgN G f tk s k) (gaF (G.getD k gp0) k tk (f k) (ltr s k))
def rcN (C : List Cf) (f : Nat → Lm) (tk : Int) (s : ByteArray) (x : Al) : Nat → Al
  | 0 => x
  | k + 1 => pcF f tk s (rcN C f tk s x k) (C.getD k cf0)
theorem pz0 (t : Int) : Pz t al0 := ⟨fun _ => rfl, fun e => absurd rfl e⟩
theorem wrL_ok (s : ByteArray) : ∀ n k, wrL s k n = -2 → ∀ j, k ≤ j → j < k + n → letB (ltr s j) = true
  | 0, k, _, j, h1, h2 => by omega
  | n + 1, k, h, j, h1, h2 => by
    unfold wrL at h
    by_cases hl : letB (ltr s k) = true
    · rw [if_pos hl] at h
      by_cases e : j = k
      · rw [e]; exact hl
      · exact wrL_ok s n (k + 1) h j (by omega) (by omega)
    · rw [if_neg hl] at h; omega
theorem wr_ok {n : Nat} {s : ByteArray} (h : wrF n s = -2) : s.size = n ∧ ∀ k, k < n → letB (ltr s k) = true := by
  unfold wrF at h
  by_cases e : s.size = n
  · rw [if_pos e] at h
    exact ⟨e, fun k hk => wrL_ok s n 0 h k (by omega) (by omega)⟩
  · rw [if_neg e] at h; cases h
theorem grL_getD (G : List Gp) (k : Nat) (hk : k < G.length) : (grL G).getD k gr0 = grF G k := by
  have h : k < (grL G).length := by rw [grL_len]; exact hk
  rw [List.getD_eq_getElem?_getD, List.getElem?_eq_getElem h, Option.getD_some, grL_get]
theorem lk_rg {G : List Gp} {f : Nat → Lm} {tk : Int} {la s : ByteArray} {ru gn : Nat → Int} (hr : Rel G.length f tk la ru gn) (hl : ∀ k, k < G.length → letB (ltr s k) = true) : ∀ k, k ≤ G.length → lkN (grL G) f tk s al0 k = rgN G f tk s k ∧ Pz tk (rgN G f tk s k)
  | 0, _ => ⟨rfl, pz0 tk⟩
  | k + 1, hk => by
    obtain ⟨h1, h2⟩ := lk_rg hr hl k (by omega)
    have e : lkN (grL G) f tk s al0 (k + 1) = lkF (lkN (grL G) f tk s al0 k) ((grL G).getD k gr0) (tnF f tk s k) := rfl
    have e2 : lkN (grL G) f tk s al0 (k + 1) = rgN G f tk s (k + 1) := by
      rw [e, h1, grL_getD G k (by omega)]
      exact lk_ga hr (by omega) (hl k (by omega)) h2
    exact ⟨e2, by rw [← e2]; exact pz_lkN (pz0 tk) _⟩
theorem pr_rc {C : List Cf} {f : Nat → Lm} {tk : Int} {s : ByteArray} {x : Al} (h : Pz tk x) (hc : ∀ (i : Nat) (hi : i < C.length), 0 ≤ C[i].a ∧ 0 ≤ C[i].b) : ∀ k, k ≤ C.length → prN C f tk s x k = rcN C f tk s x k ∧ Pz tk (rcN C f tk s x k)
  | 0, _ => ⟨rfl, h⟩
  | k + 1, hk => by
    obtain ⟨h1, h2⟩ := pr_rc h hc k (by omega)
    have hk' : k < C.length := by omega
    have eC : C.getD k cf0 = C[k] := by rw [List.getD_eq_getElem?_getD, List.getElem?_eq_getElem hk']; rfl
    have e : prN C f tk s x (k + 1) = prF (prN C f tk s x k) (C.getD k cf0) (tnF f tk s (C.getD k cf0).a.toNat) (tnF f tk s (C.getD k cf0).b.toNat) := rfl
    have e2 : prN C f tk s x (k + 1) = rcN C f tk s x (k + 1) := by
      rw [e, h1]
      exact pr_pc h2 (by rw [eC]; exact (hc k hk').1) (by rw [eC]; exact (hc k hk').2)
    exact ⟨e2, by rw [← e2]; exact pz_prN h _⟩
/-- The first alarm of a tick, as the reference finds it. -/
def ffF (G : List Gp) (C : List Cf) (f : Nat → Lm) (tk : Int) (s : ByteArray) : Al :=
  if wrF G.length s = -2 then rcN C f tk s (rgN G f tk s G.length) C.length else ⟨1, tk, wrF G.length s, -1⟩
theorem fr_ff {G : List Gp} {C : List Cf} {f : Nat → Lm} {tk : Int} {la s : ByteArray} {ru gn : Nat → Int} (hr : Rel G.length f tk la ru gn) (hc : ∀ (i : Nat) (hi : i < C.length), 0 ≤ C[i].a ∧ 0 ≤ C[i].b) : frF (grL G) C f tk s = ffF G C f tk s := by
  unfold frF ffF
  rw [grL_len, ms_wr]
  by_cases hw : wrF G.length s = -2
  · rw [if_pos hw, if_pos hw, if_pos (show al0.k = 0 from rfl)]
    obtain ⟨h1, h2⟩ := lk_rg hr (wr_ok hw).2 G.length (Nat.le_refl _)
    rw [h1]
    exact (pr_rc h2 hc C.length (Nat.le_refl _)).1
  · rw [if_neg hw, if_neg hw, if_neg (by show ¬ (1 : Int) = 0; decide)]
def runF (f : Nat → Lm) (tk : Int) (s : ByteArray) (k : Nat) : Int := (shF (f k) tk (ltr s k)).lo
def grnF (f : Nat → Lm) (tk : Int) (s : ByteArray) (k : Nat) : Int := (shF (f k) tk (ltr s k)).fr - 1
theorem rel_next {n : Nat} {f : Nat → Lm} {tk : Int} {la s : ByteArray} {ru gn : Nat → Int} (hr : Rel n f tk la ru gn) (hw : wrF n s = -2) : Rel n (lmN f tk s n) (tk + 1) s (runF f tk s) (grnF f tk s) := by
  obtain ⟨h1, h2⟩ := wr_ok hw
  have hl : ∀ k, k < n → lmN f tk s n k = shF (f k) tk (ltr s k) := fun k hk => by unfold lmN; rw [if_pos hk]
  refine ⟨by have := hr.t0; omega, fun k hk => by rw [hl k hk]; rfl, fun k hk => by rw [hl k hk]; rfl, fun k hk => ?_, fun e => by have := hr.t0; omega, fun _ => ⟨h1, fun k hk => ?_⟩⟩
  · rw [hl k hk]
    have := hr.fr k hk; have := hr.t0
    unfold shF
    dsimp only
    split <;> omega
  · rw [hl k hk]
    exact ⟨rfl, h2 k hk⟩
theorem rel0 (n : Nat) : Rel n (fun _ => lm0) 0 ⟨#[]⟩ (fun _ => 0) (fun _ => -1) := ⟨Int.le_refl _, fun _ _ => rfl, fun _ _ => rfl, fun _ _ => Int.le_refl _, fun _ _ _ => rfl, fun h => absurd h (by decide)⟩
end Go.Proofs.Ytoaokpmnjppfcaa
