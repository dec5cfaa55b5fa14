import Derived.Test.YtcajejfddfiidaaDoorDrH
namespace Go.Proofs.YtcajejfddfiidaaDoor
open Go.RowKit
set_option linter.unusedVariables false
set_option linter.unusedSimpArgs false

/-- A text's lines, each with its end. -/
def cutU : List UInt8 → List (List UInt8)
  | [] => []
  | c :: r => if c = 10 then [10] :: cutU r else match cutU r with
    | [] => [[c]]
    | l :: q => (c :: l) :: q
theorem cutU_cut : ∀ (p q : List UInt8), 10 ∉ p → cutU (p ++ 10 :: q) = (p ++ [10]) :: cutU q
  | [], q, _ => by simp [cutU]
  | c :: p, q, h => by
    have hc : c ≠ 10 := fun e => h (by simp [e])
    have hp : 10 ∉ p := fun e => h (by simp [e])
    show cutU (c :: (p ++ 10 :: q)) = _
    rw [cutU, if_neg hc, cutU_cut p q hp]; rfl
theorem cutU_flat : ∀ (X : List UInt8), (cutU X).flatten = X
  | [] => rfl
  | c :: r => by
    have ih := cutU_flat r
    unfold cutU
    by_cases hc : c = 10
    · rw [if_pos hc, List.flatten_cons, ih, hc]; rfl
    · rw [if_neg hc]
      cases hr : cutU r with
      | nil => rw [hr] at ih; rw [← ih]; rfl
      | cons l q => rw [hr] at ih; rw [← ih]; rfl
/-- What a line reads as. -/
structure Ln where
  a : Nat
  b : Nat
  e : En
def Ln.ok (l : Ln) : Prop := l.a ≤ l.b ∧ l.b ≤ 2147483647 ∧ toB l.e = true
/-- A reading of lines: it undoes lnF, and reads nothing else. -/
def Rs (rs : List UInt8 → Option Ln) : Prop := ∀ x l, rs x = some l ↔ (x = (lnF l.a l.b l.e.heads l.e.stage).data.toList ∧ l.ok)
/-- Does a list end with an entry? -/
def lsB (e : En) (L : List En) : Bool := match L.getLast? with | none => false | some f => eqE f e
def rdS (o : Option Ln) (L : List En) : Option (List En) :=
  match o with
  | none => none
  | some l => if l.a = L.length ∧ l.b < 65536 ∧ lsB l.e L = false then some (L ++ List.replicate (l.b + 1 - l.a) l.e) else none
def rdF (rs : List UInt8 → Option Ln) : List (List UInt8) → List En → Option (List En)
  | [], L => some L
  | x :: xs, L => (rdS (rs x) L).bind (rdF rs xs)
theorem lsB_rep (L : List En) (k : Nat) (e f : En) : lsB f (L ++ List.replicate (k + 1) e) = eqE e f := by
  unfold lsB
  rw [List.replicate_succ', ← List.append_assoc, List.getLast?_append, List.getLast?_singleton]
  rfl
theorem eqE_comm (e f : En) : eqE e f = eqE f e := by
  unfold eqE
  apply decide_eq_decide.2
  exact ⟨fun h => ⟨h.1.symm, h.2.symm⟩, fun h => ⟨h.1.symm, h.2.symm⟩⟩
/-- A stretch written. -/
theorem tr_build (e : En) (he : toB e = true) (L' : List En) (t' : ByteArray) (hn : nxS e L' = false) : ∀ (k a i : Nat), trR (i + k + 1) (i + k + 1) L' = some t' → trR a i (List.replicate (k + 1) e ++ L') = some (lnF a (i + k) e.heads e.stage ++ t') := by
  intro k
  induction k with
  | zero =>
    intro a i h
    show trR a i (e :: L') = _
    unfold trR
    rw [he, if_pos rfl, hn, if_neg (by simp), h]; rfl
  | succ k ih =>
    intro a i h
    rw [List.replicate_succ, List.cons_append]
    unfold trR
    rw [he, if_pos rfl, if_pos (by rw [List.replicate_succ, List.cons_append]; exact eqE_self e)]
    have := ih a (i + 1) (by rw [← h]; congr 1 <;> omega)
    rw [this]; congr 3; omega
/-- Does the list behind begin otherwise than the list ahead ends? -/
def Sp (L0 L1 : List En) : Prop := ∀ e L', L1 = e :: L' → lsB e L0 = false
theorem rd_sound (rs : List UInt8 → Option Ln) (hrs : Rs rs) : ∀ (xs : List (List UInt8)) (L0 L : List En), rdF rs xs L0 = some L → ∃ L1 t, L = L0 ++ L1 ∧ t.data.toList = xs.flatten ∧ trR L0.length L0.length L1 = some t ∧ Sp L0 L1 ∧ (L0.length ≤ 65536 → L.length ≤ 65536) := by
  intro xs
  induction xs with
  | nil =>
    intro L0 L h
    unfold rdF at h
    cases h
    exact ⟨[], ⟨#[]⟩, by simp, rfl, rfl, (fun e L' h => by cases h), fun h => h⟩
  | cons x xs ih =>
    intro L0 L h
    unfold rdF at h
    obtain ⟨L2, h2, h3⟩ := Option.bind_eq_some_iff.1 h
    unfold rdS at h2
    cases hx : rs x with
    | none => rw [hx] at h2; cases h2
    | some l =>
      rw [hx] at h2
      obtain ⟨e1, hok, hok2, hok3⟩ := (hrs x l).1 hx
      by_cases hc : l.a = L0.length ∧ l.b < 65536 ∧ lsB l.e L0 = false
      · have h2 : some (L0 ++ List.replicate (l.b + 1 - l.a) l.e) = some L2 := by rw [← h2]; exact (if_pos hc).symm
        cases h2
        obtain ⟨c1, c2, c3⟩ := hc
        obtain ⟨L1, t, g1, g2, g3, g4, g5⟩ := ih _ _ h3
        have hk : l.b + 1 - l.a = (l.b - l.a) + 1 := by omega
        have hlen : (L0 ++ List.replicate (l.b + 1 - l.a) l.e).length = L0.length + (l.b - l.a) + 1 := by rw [List.length_append, List.length_replicate]; omega
        rw [hlen] at g3 g5
        have hnx : nxS l.e L1 = false := by
          cases L1 with
          | nil => rfl
          | cons f L' =>
            have := g4 f L' rfl
            rw [hk, lsB_rep] at this
            show eqE f l.e = false
            rw [eqE_comm]; exact this
        have hb := tr_build l.e hok3 L1 t hnx (l.b - l.a) L0.length L0.length g3
        refine ⟨List.replicate (l.b + 1 - l.a) l.e ++ L1, lnF L0.length (L0.length + (l.b - l.a)) l.e.heads l.e.stage ++ t, by rw [g1]; simp, ?_, by rw [hk]; exact hb, ?_, fun _ => g5 (by omega)⟩
        · rw [List.flatten_cons, ← g2, e1, c1, show L0.length + (l.b - L0.length) = l.b by omega]; simp
        · intro e L' he
          rw [hk, List.replicate_succ, List.cons_append] at he
          cases he; exact c3
      · have h2 : none = some L2 := by rw [← h2]; exact (if_neg hc).symm
        cases h2
theorem ln_cut (a b : Nat) (e : En) (he : toB e = true) (T : List UInt8) : cutU ((lnF a b e.heads e.stage).data.toList ++ T) = (lnF a b e.heads e.stage).data.toList :: cutU T := by
  have h2 : hdB e.heads = true ∧ stB e.stage = true := by unfold toB at he; rw [Bool.and_eq_true] at he; exact he
  have n10 : ¬ isD 10 := notD 10 (by decide)
  rw [ln_list]
  have h : tkL a b ++ 32 :: (hsL e.heads ++ 32 :: (sgL e.stage ++ [10])) = (tkL a b ++ [32] ++ hsL e.heads ++ [32] ++ sgL e.stage) ++ [10] := by simp
  rw [h, List.append_assoc _ [10] T]
  refine cutU_cut _ T ?_
  simp only [List.mem_append, List.mem_singleton, not_or]
  exact ⟨⟨⟨⟨tk_no a b 10 n10 (by decide), by decide⟩, hs_no e.heads 10 h2.1 (by decide) (by decide)⟩, by decide⟩, sg_no e.stage 10 n10 (by decide)⟩
theorem rd_full (rs : List UInt8 → Option Ln) (hrs : Rs rs) : ∀ (m : Nat) (L1 L0 : List En) (t : ByteArray), L1.length ≤ m → trR L0.length L0.length L1 = some t → Sp L0 L1 → L0.length + L1.length ≤ 65536 → rdF rs (cutU t.data.toList) L0 = some (L0 ++ L1) := by
  intro m
  induction m with
  | zero =>
    intro L1 L0 t hm ht _ _
    have : L1 = [] := List.eq_nil_of_length_eq_zero (by omega)
    subst this
    unfold trR at ht
    cases ht
    show some L0 = _
    simp
  | succ m ih =>
    intro L1 L0 t hm ht hsp hl
    cases L1 with
    | nil =>
      unfold trR at ht
      cases ht
      show some L0 = _
      simp
    | cons e L =>
      obtain ⟨k, L', t', h1, h2, h3, h4, h5⟩ := stretch_of L e _ _ t ht
      have h3' : t.data.toList = (lnF L0.length (L0.length + k) e.heads e.stage).data.toList ++ t'.data.toList := by rw [h3]; simp
      have hlen : L.length = k + L'.length := by rw [h1]; simp
      rw [List.length_cons] at hl hm
      rw [h3', ln_cut _ _ e h2]
      unfold rdF
      have hr := (hrs _ ⟨L0.length, L0.length + k, e⟩).2 ⟨rfl, by show L0.length ≤ L0.length + k; omega, by show L0.length + k ≤ _; omega, h2⟩
      have hS : rdS (some ⟨L0.length, L0.length + k, e⟩) L0 = some (L0 ++ List.replicate (L0.length + k + 1 - L0.length) e) := if_pos ⟨rfl, by show L0.length + k < _; omega, hsp e L rfl⟩
      rw [hr, hS, show L0.length + k + 1 - L0.length = k + 1 by omega]
      show rdF rs (cutU t'.data.toList) (L0 ++ List.replicate (k + 1) e) = _
      have := ih L' (L0 ++ List.replicate (k + 1) e) t' (by omega) (by rw [List.length_append, List.length_replicate]; exact h4) ?_ (by rw [List.length_append, List.length_replicate]; omega)
      · rw [this, h1, List.replicate_succ]; simp
      · intro f M hM
        rw [lsB_rep, eqE_comm]
        rw [hM] at h5
        exact h5
/-- Both readings are one. -/
theorem rd_ref (rs : List UInt8 → Option Ln) (hrs : Rs rs) (d : ByteArray) : rdF rs (cutU d.data.toList) [] = rtR d := by
  have key : ∀ L, rdF rs (cutU d.data.toList) [] = some L ↔ rtR d = some L := by
    intro L
    rw [rtR_iff]
    constructor
    · intro h
      obtain ⟨L1, t, g1, g2, g3, g4, g5⟩ := rd_sound rs hrs _ _ _ h
      rw [cutU_flat] at g2
      have et : t = d := WideShapes.bytes_inj g2
      rw [List.nil_append] at g1
      subst g1
      unfold trA
      rw [if_neg (by have := g5 (by simp); omega), ← et]
      exact g3
    · intro h
      unfold trA at h
      by_cases hl : 65536 < L.length
      · rw [if_pos hl] at h; cases h
      · rw [if_neg hl] at h
        have := rd_full rs hrs _ L [] d (Nat.le_refl _) h (fun e L' _ => rfl) (by simp; omega)
        simpa using this
  cases hr : rtR d with
  | some L => exact (key L).2 hr
  | none =>
    cases hc : rdF rs (cutU d.data.toList) [] with
    | none => rfl
    | some L => have := (key L).1 hc; rw [hr] at this; cases this
end Go.Proofs.YtcajejfddfiidaaDoor
