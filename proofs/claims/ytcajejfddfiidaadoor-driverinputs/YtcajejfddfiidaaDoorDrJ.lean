import Derived.Test.YtcajejfddfiidaaDoorDrI
namespace Go.Proofs.YtcajejfddfiidaaDoor
open Go.RowKit
set_option linter.unusedVariables false
set_option linter.unusedSimpArgs false

/-- A text cut at the first of a byte. -/
def cutB (c : UInt8) : List UInt8 → List UInt8 × List UInt8 × Bool
  | [] => ([], [], false)
  | x :: r => if x = c then ([], r, true) else (x :: (cutB c r).1, (cutB c r).2)
theorem cutB_hit (c : UInt8) (q : List UInt8) : ∀ (p : List UInt8), c ∉ p → cutB c (p ++ c :: q) = (p, q, true)
  | [], _ => by simp [cutB]
  | x :: p, h => by
    have hx : x ≠ c := fun e => h (by simp [e])
    have := cutB_hit c q p (fun e => h (by simp [e]))
    show cutB c (x :: (p ++ c :: q)) = _
    rw [cutB, if_neg hx, this]
theorem cutB_no (c : UInt8) : ∀ (p : List UInt8), c ∉ p → cutB c p = (p, [], false)
  | [], _ => rfl
  | x :: p, h => by
    have hx : x ≠ c := fun e => h (by simp [e])
    have := cutB_no c p (fun e => h (by simp [e]))
    rw [cutB, if_neg hx, this]
theorem split_at (c : UInt8) : ∀ (l : List UInt8), c ∉ l ∨ ∃ p q, l = p ++ c :: q ∧ c ∉ p
  | [] => .inl (by simp)
  | x :: r => by
    by_cases hx : x = c
    · exact .inr ⟨[], r, by rw [hx]; rfl, by simp⟩
    · rcases split_at c r with h | ⟨p, q, h1, h2⟩
      · exact .inl (by simp only [List.mem_cons, not_or]; exact ⟨fun e => hx e.symm, h⟩)
      · exact .inr ⟨x :: p, q, by rw [h1]; rfl, by simp only [List.mem_cons, not_or]; exact ⟨fun e => hx e.symm, h2⟩⟩
/-- A reading of counts. -/
def Ct (ct : List UInt8 → Option Nat) : Prop := ∀ l n, ct l = some n ↔ (l = Lib.decDigits n ∧ n ≤ 2147483647)
def tkR (ct : List UInt8 → Option Nat) (l : List UInt8) : Option (Nat × Nat) :=
  (ct (cutB 45 l).1).bind fun a => if (cutB 45 l).2.2 = true then (ct (cutB 45 l).2.1).bind fun b => if a < b then some (a, b) else none else some (a, a)
def hdR (l : List UInt8) : Option ByteArray := if l = [46] then some ⟨#[]⟩ else if l ≠ [] ∧ hdB ⟨l.toArray⟩ = true then some ⟨l.toArray⟩ else none
def sgR (ct : List UInt8 → Option Nat) (l : List UInt8) : Option Int := if l = [45] then some (-1) else (ct l).bind fun n => if stB (n : Int) = true then some (n : Int) else none
theorem n45 : ¬ isD 45 := notD 45 (by decide)
theorem tkR_iff (ct : List UInt8 → Option Nat) (hct : Ct ct) (l : List UInt8) (a b : Nat) : tkR ct l = some (a, b) ↔ (l = tkL a b ∧ a ≤ b ∧ b ≤ 2147483647) := by
  constructor
  · intro h
    unfold tkR at h
    obtain ⟨a', h1, h2⟩ := Option.bind_eq_some_iff.1 h
    obtain ⟨e1, b1⟩ := (hct _ _).1 h1
    rcases split_at 45 l with hn | ⟨p, q, hl, hp⟩
    · rw [cutB_no 45 l hn] at h2 e1
      have h2 : some (a', a') = some (a, b) := by rw [← h2]; rfl
      cases h2
      refine ⟨?_, Nat.le_refl _, b1⟩
      unfold tkL; rw [if_neg (by omega)]; exact e1
    · rw [hl, cutB_hit 45 q p hp] at h2 e1
      rw [if_pos rfl] at h2
      obtain ⟨b', h3, h4⟩ := Option.bind_eq_some_iff.1 h2
      obtain ⟨e2, b2⟩ := (hct _ _).1 h3
      by_cases hab : a' < b'
      · rw [if_pos hab] at h4
        cases h4
        refine ⟨?_, by omega, b2⟩
        unfold tkL; rw [if_pos hab, hl]
        have e1 : p = Lib.decDigits a := e1
        have e2 : q = Lib.decDigits b := e2
        rw [e1, e2]
      · rw [if_neg hab] at h4; cases h4
  · intro ⟨h1, h2, h3⟩
    unfold tkR
    by_cases hab : a < b
    · have e : l = Lib.decDigits a ++ 45 :: Lib.decDigits b := by rw [h1]; unfold tkL; rw [if_pos hab]
      rw [e, cutB_hit 45 _ _ (dec_no a 45 n45), (hct _ a).2 ⟨rfl, by omega⟩]
      show ((ct (Lib.decDigits b)).bind fun b => if a < b then some (a, b) else none) = some (a, b)
      rw [(hct _ b).2 ⟨rfl, h3⟩]
      exact if_pos hab
    · have e : l = Lib.decDigits a := by rw [h1]; unfold tkL; rw [if_neg hab]
      rw [e, cutB_no 45 _ (dec_no a 45 n45), (hct _ a).2 ⟨rfl, by omega⟩]
      show some (a, a) = _
      rw [show b = a by omega]
theorem hdR_iff (l : List UInt8) (h : ByteArray) : hdR l = some h ↔ (l = hsL h ∧ hdB h = true) := by
  constructor
  · intro e
    unfold hdR at e
    by_cases h1 : l = [46]
    · rw [if_pos h1] at e
      cases e
      exact ⟨h1, rfl⟩
    · rw [if_neg h1] at e
      by_cases h2 : l ≠ [] ∧ hdB ⟨l.toArray⟩ = true
      · rw [if_pos h2] at e
        cases e
        refine ⟨?_, h2.2⟩
        unfold hsL
        rw [if_neg]
        intro hc
        exact h2.1 (by simpa using hc)
      · rw [if_neg h2] at e; cases e
  · intro ⟨e, hb⟩
    unfold hdR
    cases hE : h.data.toList.isEmpty with
    | true =>
      have eh : hsL h = [46] := by unfold hsL; rw [hE]; rfl
      rw [if_pos (e.trans eh)]
      congr 1
      apply WideShapes.bytes_inj
      exact (List.isEmpty_iff.1 hE).symm
    | false =>
      have eh : hsL h = h.data.toList := by unfold hsL; rw [hE]; rfl
      have hh : (⟨l.toArray⟩ : ByteArray) = h := by apply WideShapes.bytes_inj; rw [e, eh]
      rw [if_neg, if_pos]
      · rw [hh]
      · rw [hh]
        refine ⟨?_, hb⟩
        intro hc; rw [e, eh] at hc; rw [hc] at hE; cases hE
      · intro hc
        have ha : h.data.toList.all isL = true := by unfold hdB at hb; rw [Bool.and_eq_true] at hb; exact hb.2
        rw [← eh, ← e, hc] at ha
        exact absurd ha (by decide)
theorem sgR_iff (ct : List UInt8 → Option Nat) (hct : Ct ct) (l : List UInt8) (s : Int) : sgR ct l = some s ↔ (l = sgL s ∧ stB s = true) := by
  constructor
  · intro e
    unfold sgR at e
    by_cases h1 : l = [45]
    · rw [if_pos h1] at e
      cases e
      exact ⟨h1, rfl⟩
    · rw [if_neg h1] at e
      obtain ⟨n, h2, h3⟩ := Option.bind_eq_some_iff.1 e
      obtain ⟨e1, _⟩ := (hct _ _).1 h2
      by_cases hb : stB (n : Int) = true
      · rw [if_pos hb] at h3
        cases h3
        refine ⟨?_, hb⟩
        unfold sgL; rw [if_pos (by omega)]; exact e1
      · rw [if_neg hb] at h3; cases h3
  · intro ⟨e, hb⟩
    have hs' : -1 ≤ s ∧ s ≤ 255 := by unfold stB at hb; rw [Bool.and_eq_true] at hb; exact ⟨of_decide_eq_true hb.1, of_decide_eq_true hb.2⟩
    unfold sgR
    by_cases h0 : 0 ≤ s
    · have es : sgL s = Lib.decDigits s.toNat := by unfold sgL; rw [if_pos h0]
      have hn : ((s.toNat : Nat) : Int) = s := by omega
      rw [if_neg, (hct _ s.toNat).2 ⟨e.trans es, by omega⟩]
      · show (if stB ((s.toNat : Nat) : Int) = true then some ((s.toNat : Nat) : Int) else none) = _
        rw [hn]; exact if_pos hb
      · intro hc
        have : (45 : UInt8) ∈ Lib.decDigits s.toNat := by rw [← es, ← e, hc]; exact List.mem_singleton.2 rfl
        exact dec_no _ 45 n45 this
    · have es : sgL s = [45] := by unfold sgL; rw [if_neg h0]
      rw [if_pos (e.trans es)]
      congr 1; omega
theorem sgR_nil (ct : List UInt8 → Option Nat) (hct : Ct ct) : sgR ct [] = none := by
  cases h : sgR ct [] with
  | none => rfl
  | some s =>
    have := ((sgR_iff ct hct [] s).1 h).1
    unfold sgL at this
    by_cases h0 : 0 ≤ s
    · rw [if_pos h0] at this
      exact absurd this.symm (dec_dig _ _ (Nat.le_refl _)).2.2
    · rw [if_neg h0] at this; cases this
/-- A line taken apart. -/
def pcF (r : List UInt8) : List UInt8 × List UInt8 × List UInt8 := ((cutB 32 r).1, (cutB 32 (cutB 32 r).2.1).1, (cutB 32 (cutB 32 r).2.1).2.1)
def rsF (ct : List UInt8 → Option Nat) (x : List UInt8) : Option Ln :=
  if x.getLast? = some 10 then (tkR ct (pcF x.dropLast).1).bind fun t => (hdR (pcF x.dropLast).2.1).bind fun h => (sgR ct (pcF x.dropLast).2.2).bind fun s => some ⟨t.1, t.2, ⟨h, s⟩⟩ else none
theorem rsF_Rs (ct : List UInt8 → Option Nat) (hct : Ct ct) : Rs (rsF ct) := by
  intro x l
  constructor
  · intro h
    unfold rsF at h
    by_cases hx : x.getLast? = some 10
    · rw [if_pos hx] at h
      obtain ⟨t, h1, h⟩ := Option.bind_eq_some_iff.1 h
      obtain ⟨g, h2, h⟩ := Option.bind_eq_some_iff.1 h
      obtain ⟨s, h3, h⟩ := Option.bind_eq_some_iff.1 h
      cases h
      obtain ⟨a, b⟩ := t
      obtain ⟨e1, o1, o2⟩ := (tkR_iff ct hct _ a b).1 h1
      obtain ⟨e2, o3⟩ := (hdR_iff _ g).1 h2
      obtain ⟨e3, o4⟩ := (sgR_iff ct hct _ s).1 h3
      have hne : (pcF x.dropLast).2.2 ≠ [] := by
        intro hc; rw [hc, sgR_nil ct hct] at h3; cases h3
      refine ⟨?_, o1, o2, by show (hdB g && stB s) = true; rw [o3, o4]; rfl⟩
      show x = (lnF a b g s).data.toList
      rw [ln_list, ← e1, ← e2, ← e3]
      have hxx : x = x.dropLast ++ [10] := by
        obtain ⟨ys, hy⟩ := List.getLast?_eq_some_iff.1 hx
        rw [hy]; simp
      rcases split_at 32 x.dropLast with hn | ⟨p, q, hl, hp⟩
      · exfalso
        apply hne
        unfold pcF
        rw [cutB_no 32 _ hn]; rfl
      · rcases split_at 32 q with hn | ⟨p2, q2, hl2, hp2⟩
        · exfalso
          apply hne
          unfold pcF
          rw [hl, cutB_hit 32 q p hp]
          show (cutB 32 q).2.1 = []
          rw [cutB_no 32 _ hn]
        · have ep : pcF x.dropLast = (p, p2, q2) := by
            unfold pcF
            rw [hl, cutB_hit 32 q p hp]
            show (p, (cutB 32 q).1, (cutB 32 q).2.1) = _
            rw [hl2, cutB_hit 32 q2 p2 hp2]
          rw [ep]
          conv => lhs; rw [hxx, hl, hl2]
          simp
    · rw [if_neg hx] at h; cases h
  · intro ⟨e, o1, o2, o3⟩
    have h2 : hdB l.e.heads = true ∧ stB l.e.stage = true := by unfold toB at o3; rw [Bool.and_eq_true] at o3; exact o3
    have n32 : ¬ isD 32 := notD 32 (by decide)
    rw [ln_list] at e
    have e' : x = (tkL l.a l.b ++ 32 :: (hsL l.e.heads ++ 32 :: sgL l.e.stage)) ++ [10] := by rw [e]; simp
    have hdl : x.dropLast = tkL l.a l.b ++ 32 :: (hsL l.e.heads ++ 32 :: sgL l.e.stage) := by rw [e', List.dropLast_concat]
    have ep : pcF x.dropLast = (tkL l.a l.b, hsL l.e.heads, sgL l.e.stage) := by
      unfold pcF
      rw [hdl, cutB_hit 32 _ _ (tk_no _ _ 32 n32 (by decide))]
      show (_, (cutB 32 (hsL l.e.heads ++ 32 :: sgL l.e.stage)).1, (cutB 32 (hsL l.e.heads ++ 32 :: sgL l.e.stage)).2.1) = _
      rw [cutB_hit 32 _ _ (hs_no _ 32 h2.1 (by decide) (by decide))]
    unfold rsF
    rw [if_pos (by rw [e', List.getLast?_append, List.getLast?_singleton]; rfl), ep]
    show (tkR ct (tkL l.a l.b)).bind _ = _
    rw [(tkR_iff ct hct _ _ _).2 ⟨rfl, o1, o2⟩]
    show (hdR (hsL l.e.heads)).bind _ = _
    rw [(hdR_iff _ _).2 ⟨rfl, h2.1⟩]
    show (sgR ct (sgL l.e.stage)).bind _ = _
    rw [(sgR_iff ct hct _ _).2 ⟨rfl, h2.2⟩]
    rfl
end Go.Proofs.YtcajejfddfiidaaDoor
