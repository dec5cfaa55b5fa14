import Derived.Test.YtiaklfjpmmifjaaStB
import Derived.Maps.Views
namespace Go.Proofs.Ytiaklfjpmmifjaa
open Go.RowKit Go.Maps Go.WideMaps
set_option linter.unusedVariables false

def stepD (D : DataW Unit) (c : Cf) : DataW Unit := (D.put (pk c.a c.b) (.lit (.int .i64 c.ab))).put (pk c.b c.a) (.lit (.int .i64 c.ba))
theorem mD_fold (C : List Cf) : ∀ k, k ≤ C.length → mD C k = (C.take k).foldl stepD (.map [])
  | 0, _ => rfl
  | k + 1, h => by
    rw [mD_step C k (by omega), List.take_succ_eq_append_getElem (by omega), List.foldl_append, ← mD_fold C k (by omega)]
    rfl
theorem ordB_trans {b c d : Cf} (h1 : ordB b c = true) (h2 : ordB c d = true) : ordB b d = true := by
  simp [ordB] at *; omega
theorem rows_ord {n : Nat} : ∀ (cs : List Cf) (c : Cf), rowsB n (some c) cs = true → ∀ d ∈ cs, ordB c d = true ∧ cfB n d = true
  | [], _, _, d, hd => by cases hd
  | x :: xs, c, h, d, hd => by
    simp [rowsB, ordP] at h
    rcases List.mem_cons.1 hd with rfl | hd
    · exact ⟨h.1.2, h.1.1⟩
    · have ih := rows_ord xs x h.2 d hd
      exact ⟨ordB_trans h.1.2 ih.1, ih.2⟩
theorem inter_none : ∀ (cs : List Cf) (o g : Int), (∀ d ∈ cs, ¬ (d.a = o ∧ d.b = g) ∧ ¬ (d.a = g ∧ d.b = o)) → interF cs o g = (0, false)
  | [], _, _, _ => rfl
  | d :: cs, o, g, h => by
    have h1 := h d (by simp)
    unfold interF
    rw [if_neg h1.1, if_neg h1.2]
    exact inter_none cs o g (fun e he => h e (by simp [he]))
theorem stepD_map {D : DataW Unit} (h : IsMap D) (c : Cf) : IsMap (stepD D c) := (h.put _ _).put _ _
/-- What the map says of a pair. -/
theorem fold_at {n : Nat} : ∀ (cs : List Cf) (p : Option Cf) (D : DataW Unit) (o g : Int) (z : DataW Unit), IsMap D → rowsB n p cs = true → (∀ d ∈ cs, d.ok) → (Lit.int .i64 o).wf = true → (Lit.int .i64 g).wf = true →
    (cs.foldl stepD D).atKey (pk o g) z = (if (interF cs o g).2 = true then .lit (.int .i64 (interF cs o g).1) else D.atKey (pk o g) z) ∧ Maps.has (cs.foldl stepD D) (pk o g) = ((interF cs o g).2 || Maps.has D (pk o g))
  | [], _, D, o, g, z, _, _, _, _, _ => by simp [interF]
  | c :: cs, p, D, o, g, z, hD, hr, ok, wo, wg => by
    have okc := ok c (by simp)
    simp [rowsB] at hr
    have hr1 := hr.1.1
    have hr2 := hr.2
    have so := rows_ord cs c hr2
    have ih := fold_at cs (some c) (stepD D c) o g z (stepD_map hD c) hr2 (fun d hd => ok d (by simp [hd])) wo wg
    have ab : c.a < c.b := by simp [cfB] at hr1; exact hr1.2.1
    have ne1 : pk c.a c.b ≠ pk c.b c.a := fun e => by have := pk_inj okc.1 okc.2.1 okc.2.1 okc.1 e; omega
    have later : ∀ d ∈ cs, ¬ (d.a = c.a ∧ d.b = c.b) ∧ ¬ (d.a = c.b ∧ d.b = c.a) := fun d hd => by
      have h1 := so d hd
      have h2 := h1.1
      have h3 := h1.2
      simp [ordB] at h2
      simp [cfB] at h3
      constructor <;> omega
    have k1 : WideAt.IsKeyLit (pk c.a c.b) := trivial
    have k2 : WideAt.IsKeyLit (pk c.b c.a) := trivial
    rw [List.foldl_cons, ih.1, ih.2]
    by_cases m1 : c.a = o ∧ c.b = g
    · obtain ⟨rfl, rfl⟩ := m1
      have e1 : interF (c :: cs) c.a c.b = (c.ab, true) := by simp [interF]
      rw [inter_none cs c.a c.b later, e1]
      constructor
      · simp [stepD, atKey_put_other ne1, atKey_put_same hD k1]
      · simp [stepD, has_put_other ne1, has_put_same hD k1]
    · by_cases m2 : c.a = g ∧ c.b = o
      · obtain ⟨rfl, rfl⟩ := m2
        have e1 : interF (c :: cs) c.b c.a = (c.ba, true) := by
          have : ¬ (c.a = c.b ∧ c.b = c.a) := by omega
          simp [interF, this]
        rw [inter_none cs c.b c.a (fun d hd => ⟨(later d hd).2, (later d hd).1⟩), e1]
        constructor
        · simp [stepD, atKey_put_same (hD.put _ _) k2]
        · simp [stepD, has_put_same (hD.put _ _) k2]
      · have e1 : interF (c :: cs) o g = interF cs o g := by
          show (if c.a = o ∧ c.b = g then _ else if c.a = g ∧ c.b = o then _ else _) = _
          rw [if_neg m1, if_neg m2]
        have n1 : pk o g ≠ pk c.a c.b := fun e => by have := pk_inj wo wg okc.1 okc.2.1 e; exact m1 ⟨this.1.symm, this.2.symm⟩
        have n2 : pk o g ≠ pk c.b c.a := fun e => by have := pk_inj wo wg okc.2.1 okc.1 e; exact m2 ⟨this.2.symm, this.1.symm⟩
        rw [e1]
        simp [stepD, atKey_put_other n1, atKey_put_other n2, has_put_other n1, has_put_other n2]
/-- .. of sound tables. -/
theorem mD_at {G : List Gp} {C : List Cf} (gr : gridB G C = true) (ok : ∀ (i : Nat) (h : i < C.length), C[i].ok) (o g : Int) (wo : (Lit.int .i64 o).wf = true) (wg : (Lit.int .i64 g).wf = true) (z : DataW Unit) :
    (mD C C.length).atKey (pk o g) z = (if (interF C o g).2 = true then .lit (.int .i64 (interF C o g).1) else z) ∧ Maps.has (mD C C.length) (pk o g) = (interF C o g).2 := by
  have hr : rowsB G.length none C = true := by simp [gridB] at gr; exact gr.2.2
  have h := fold_at C none (.map []) o g z isMap_empty hr (fun d hd => by obtain ⟨i, hi, rfl⟩ := List.mem_iff_getElem.1 hd; exact ok i hi) wo wg
  rw [mD_fold C C.length (Nat.le_refl _), List.take_length]
  refine ⟨h.1.trans ?_, h.2.trans ?_⟩
  · simp [DataW.atKey]
  · simp [Maps.has]
end Go.Proofs.Ytiaklfjpmmifjaa
