import Derived.Test.YtoanbdbcfdjdeaaDoorBpN
namespace Go.Proofs.YtoanbdbcfdjdeaaDoor
open Go.RowKit
set_option linter.unusedVariables false
set_option linter.unusedSimpArgs false


theorem Ob.below {B : Nat} {w w' : World} {v : Value} {L : List Int} (h : Ob B w v L) (hb : Below w.heap.size w w') : Ob B w' v L := h.keep hb.size (fun q hq => hb.block q (h.lt q hq).2)
theorem Ob.only {B : Nat} {T : Nat → Prop} {w w' : World} {v : Value} {L : List Int} (h : Ob B w v L) (ho : Only T w w') (hT : ∀ q, v.ownBlock = some q → ¬ T q) : Ob B w' v L := h.keep ho.size (fun q hq => ho.block q (h.lt q hq).2 (hT q hq))
theorem Ob.str {B : Nat} {w : World} {v : Value} {L : List Int} (h : Ob B w v L) : (convert 22 9 v).run Tryd.prog w = .ok (.string (strOfNums L)) w := h.by.str
structure FG (S : Nat → Prop) (gf cf : Nat) (F : List Int) (vg : Value) (A : List Ac) (X : World) : Prop where
  full : By S X (.slice (some ⟨gf, 0, none⟩) (F.length + 2) cf) (F ++ [201, 202])
  head : By S X (.slice (some ⟨gf, 0, none⟩) F.length cf) F
  acts : Acs S X vg A
theorem FG.mv {S : Nat → Prop} {gf cf : Nat} {F : List Int} {vg : Value} {A : List Ac} {X Y : World} (h : FG S gf cf F vg A X) (hm : Mv S X S Y) : FG S gf cf F vg A Y := ⟨h.full.keep hm, h.head.keep hm, h.acts.keep hm⟩
theorem FG.of_own {S : Nat → Prop} {gf cf base : Nat} {F : List Int} {vg : Value} {A : List Ac} {X : World} (h : X.ownsRow base 5 1 (.slice (some ⟨gf, 0, none⟩) (F.length + 2) cf) (F.length + 2) ((F ++ [201, 202]).map bv)) (hS : S gf) (hl : F.length ≤ 140737488355000) (hA : Acs S X vg A) : FG S gf cf F vg A X := by
  refine ⟨own_by h hS (by omega), ?_, hA⟩
  obtain ⟨h1, h2, -, h4, -, h6⟩ := own_at h
  refine ⟨_, cf, rfl, by omega, by omega, fun e => (by cases e), .inr ⟨gf, 0, rfl, hS, h1, fun i hi => ?_⟩⟩
  rw [Nat.zero_add, h6 i (by rw [List.length_append]; omega), List.getElem_append_left hi]
theorem slice_to (W : World) (h N cap ch : Nat) (hc : ch ≤ cap) : (Instr.slice 22 (.slice (some ⟨h, 0, none⟩) N cap) none (some (.int .i64 (ch : Int))) none).run Tryd.prog W = .ok (.slice (some ⟨h, 0, none⟩) ch cap) W := by
  have ht' : Tryd.prog.underlying 22 = some (.slice (Tryd.prog.elem 22)) := by simp [Program.elem, Tryd.underlying22]
  have he : Tryd.prog.elem 22 = 5 := by simp [Program.elem, Tryd.underlying22]
  rw [run_slice_h W 22 _ _ _ ht' .i64 _ (by omega) (by omega), he, size5 W]
  simp [Result.andThen, sliced, Addr.add]
/-- The five lists that are handed to apart. -/
def U5 (a b c d e : Value) : Nat → Value
  | 0 => a
  | 1 => b
  | 2 => c
  | 3 => d
  | _ => e
def L5 (a b c d e : List Int) : Nat → List Int
  | 0 => a
  | 1 => b
  | 2 => c
  | 3 => d
  | _ => e
theorem five {P : Nat → Prop} (h0 : P 0) (h1 : P 1) (h2 : P 2) (h3 : P 3) (h4 : P 4) : ∀ j, j < 5 → P j
  | 0, _ => h0
  | 1, _ => h1
  | 2, _ => h2
  | 3, _ => h3
  | 4, _ => h4
theorem ap5 {a b c d e : Value} {N k0 k1 k2 k3 k4 k5 k6 k7 : Nat} (ha : ∀ q, a.ownBlock = some q → k0 ≤ q ∧ q < k1) (hc : ∀ q, c.ownBlock = some q → k2 ≤ q ∧ q < k3) (hb : ∀ q, b.ownBlock = some q → k4 ≤ q ∧ q < k5) (hd : ∀ q, d.ownBlock = some q → k5 ≤ q ∧ q < k6) (he : ∀ q, e.ownBlock = some q → k6 ≤ q ∧ q < k7)
    (h1 : k1 ≤ k2) (h3 : k3 ≤ k4) (h45 : k4 ≤ k5) (h56 : k5 ≤ k6) (h7 : k7 ≤ N) (h67 : k6 ≤ k7) (oa : ∀ g o n p, a = .slice (some ⟨g, o, none⟩) n p → o = 0) (ob : ∀ g o n p, b = .slice (some ⟨g, o, none⟩) n p → o = 0) (oc : ∀ g o n p, c = .slice (some ⟨g, o, none⟩) n p → o = 0) (od : ∀ g o n p, d = .slice (some ⟨g, o, none⟩) n p → o = 0) (oe : ∀ g o n p, e = .slice (some ⟨g, o, none⟩) n p → o = 0) (h23 : k2 ≤ k3) (h01 : k0 ≤ k1) : Ap 5 (U5 a b c d e) N (N + 1) where
  low := Nat.lt_succ_self _
  lt := five (fun q hq => by have := ha q hq; omega) (fun q hq => by have := hb q hq; omega) (fun q hq => by have := hc q hq; omega) (fun q hq => by have := hd q hq; omega) (fun q hq => by have := he q hq; omega)
  off := five oa ob oc od oe
  dis := fun i j hi hj => by
    revert i j
    intro i j hi hj
    match i, j, hi, hj with
    | 0, 0, _, _ => intro h; exact absurd rfl h
    | 1, 1, _, _ => intro h; exact absurd rfl h
    | 2, 2, _, _ => intro h; exact absurd rfl h
    | 3, 3, _, _ => intro h; exact absurd rfl h
    | 4, 4, _, _ => intro h; exact absurd rfl h
    | 0, 1, _, _ => intro _ q h1 h2; have := ha q h1; have := hb q h2; omega
    | 0, 2, _, _ => intro _ q h1 h2; have := ha q h1; have := hc q h2; omega
    | 0, 3, _, _ => intro _ q h1 h2; have := ha q h1; have := hd q h2; omega
    | 0, 4, _, _ => intro _ q h1 h2; have := ha q h1; have := he q h2; omega
    | 1, 0, _, _ => intro _ q h1 h2; have := hb q h1; have := ha q h2; omega
    | 1, 2, _, _ => intro _ q h1 h2; have := hb q h1; have := hc q h2; omega
    | 1, 3, _, _ => intro _ q h1 h2; have := hb q h1; have := hd q h2; omega
    | 1, 4, _, _ => intro _ q h1 h2; have := hb q h1; have := he q h2; omega
    | 2, 0, _, _ => intro _ q h1 h2; have := hc q h1; have := ha q h2; omega
    | 2, 1, _, _ => intro _ q h1 h2; have := hc q h1; have := hb q h2; omega
    | 2, 3, _, _ => intro _ q h1 h2; have := hc q h1; have := hd q h2; omega
    | 2, 4, _, _ => intro _ q h1 h2; have := hc q h1; have := he q h2; omega
    | 3, 0, _, _ => intro _ q h1 h2; have := hd q h1; have := ha q h2; omega
    | 3, 1, _, _ => intro _ q h1 h2; have := hd q h1; have := hb q h2; omega
    | 3, 2, _, _ => intro _ q h1 h2; have := hd q h1; have := hc q h2; omega
    | 3, 4, _, _ => intro _ q h1 h2; have := hd q h1; have := he q h2; omega
    | 4, 0, _, _ => intro _ q h1 h2; have := he q h1; have := ha q h2; omega
    | 4, 1, _, _ => intro _ q h1 h2; have := he q h1; have := hb q h2; omega
    | 4, 2, _, _ => intro _ q h1 h2; have := he q h1; have := hc q h2; omega
    | 4, 3, _, _ => intro _ q h1 h2; have := he q h1; have := hd q h2; omega
theorem Ob.off {B : Nat} {w : World} {v : Value} {L : List Int} (h : Ob B w v L) : ∀ g o n p, v = .slice (some ⟨g, o, none⟩) n p → o = 0 := by
  intro g o n p e
  rcases h.val with ⟨e2, _⟩ | ⟨g', cap, e2⟩
  · rw [e2] at e; cases e
  · rw [e2] at e; injection e with e _ _; injection e with e; injection e with _ e _; exact e.symm
theorem blL_le (s : Int) : (blL s).length ≤ 4194304 := by
  unfold blL
  split
  · simp
  · rw [List.length_replicate]; omega
theorem ansL_le (F : List Int) (A : List Ac) (n t : Int) : (ansL F A n t).length ≤ 4194304 := by
  unfold ansL
  split
  · rename_i h
    rw [plF_len]
    exact (flB_spec h.1).2.2
  · simp
theorem only_bel {B : Nat} {T : Nat → Prop} {a w w' : World} (h : Below B a w) (ho : Only T w w') (hB : B ≤ a.heap.size) (hT : ∀ k, T k → B ≤ k) : Below B a w' := bel_only h ho hB (fun k hk ht => by have := hT k ht; omega)
end Go.Proofs.YtoanbdbcfdjdeaaDoor
