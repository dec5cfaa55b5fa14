import Derived.Test.YtbonmajnkbggcabStA
import Derived.Test.YtbonmajnkbggcabRtD
import Derived.Test.YtbonmajnkbggcabSpO
import Derived.Test.YtbonmajnkbggcabShA
import Derived.Test.YtbonmajnkbggcabRtB
import Derived.Deep.RegionHeld3
import Derived.Laws.MakeOwn
import Derived.Laws.OwnMore
import Derived.Test.YtbonmajnkbggcabKpA
import Derived.Test.YtbonmajnkbggcabRmE
namespace Go.Proofs.Ytbonmajnkbggcab
open Go.RowKit
set_option linter.unusedVariables false


def lst64 (n : Nat) (f : Nat → Int) : List Int := (List.range n).map f
theorem lst_len (n : Nat) (f : Nat → Int) : (lst64 n f).length = n := by simp [lst64]
theorem cells_64 (n : Nat) (f : Nat → Int) : cellsF n64 (lst64 n f) = valR n f := by
  unfold cellsF lst64 valR n64
  rw [List.flatMap_map]
  induction (List.range n) with
  | nil => rfl
  | cons x l ih => simp [List.flatMap_cons, ih]
theorem cells_32 (n : Nat) (f : Nat → Int) : cellsF n32 (lst64 n f) = v32 n f := by
  unfold cellsF lst64 v32 n32
  rw [List.flatMap_map]
  induction (List.range n) with
  | nil => rfl
  | cons x l ih => simp [List.flatMap_cons, ih]
theorem own_fl {cs : Int → List Value} (hl : ∀ x, (cs x).length = 1) {w : World} {base e n : Nat} {v : Value} {L : List Int} (hL : L.length = n) (h : w.ownsRow base e 1 v n (cellsF cs L)) : Fl 1 cs w v L := by
  subst hL
  rcases Nat.eq_zero_or_pos L.length with h0 | h0
  · have hn : L = [] := List.length_eq_zero_iff.1 h0
    subst hn
    rcases h.2 with ⟨rfl, _⟩ | ⟨g, cap, cur, rfl, _⟩
    · exact .inl ⟨rfl, rfl⟩
    · exact .inr ⟨⟨g, 0, none⟩, cap, rfl, Nat.zero_le _, .inl rfl⟩
  · obtain ⟨g, cap, rfl, hc, _, hg⟩ := own_block h h0
    refine .inr ⟨⟨g, 0, none⟩, cap, rfl, hc, .inr ⟨rfl, hg, fun i hi j u hu => ?_⟩⟩
    have hj : j < 1 := by have := (List.getElem?_eq_some_iff.1 hu).1; rw [hl] at this; exact this
    show w.cell? ⟨g, 0 + i * 1 + j, none⟩ = some u
    rw [Nat.zero_add]
    exact own_reads h rfl _ _ (by rw [cellsF_get hl L i j hi hj]; exact hu)
theorem T3.f1 {B : Nat} {w : World} {va vb vc : Value} {n k2 k3 : Nat} {f : Nat → Int} {x2 x3 : List Value} (h : T3 B w va vb vc n k2 k3 (valR n f) x2 x3) : Fl 1 n64 w va (lst64 n f) := own_fl n64_len (lst_len _ _) (by rw [cells_64]; exact h.o1)
theorem T3.f2 {B : Nat} {w : World} {va vb vc : Value} {n k1 k3 : Nat} {f : Nat → Int} {x1 x3 : List Value} (h : T3 B w va vb vc k1 n k3 x1 (v32 n f) x3) : Fl 1 n32 w vb (lst64 n f) := own_fl n32_len (lst_len _ _) (by rw [cells_32]; exact h.o2)
theorem T3.f3 {B : Nat} {w : World} {va vb vc : Value} {n k1 k2 : Nat} {f : Nat → Int} {x1 x2 : List Value} (h : T3 B w va vb vc k1 k2 n x1 x2 (v32 n f)) : Fl 1 n32 w vc (lst64 n f) := own_fl n32_len (lst_len _ _) (by rw [cells_32]; exact h.o3)
/-- Heads with a code, in memory of their own. -/
def PostU (n : Nat) (f g h : Nat → Int) (c : Int) (X : World) (e : Ending) (w' : World) : Prop :=
  (∃ a1 c1 a2 c2 a3 c3, e = .returned (.tuple #[.agg #[.slice a1 n c1, .slice a2 n c2, .slice a3 n c3], .int .i64 c]) ∧ T3 X.heap.size w' (.slice a1 n c1) (.slice a2 n c2) (.slice a3 n c3) n n n (valR n f) (v32 n g) (v32 n h)) ∧ Below X.heap.size X w'
theorem zero_post {c : Int} {X : World} {e : Ending} {w' : World} (h : e = .returned (.tuple #[.agg #[.slice none 0 0, .slice none 0 0, .slice none 0 0], .int .i64 c]) ∧ Below X.heap.size X w') : PostU 0 (fun _ => 0) (fun _ => 0) (fun _ => 0) c X e w' :=
  ⟨⟨none, 0, none, 0, none, 0, h.1, ⟨rfl, .inl ⟨rfl, rfl⟩⟩, ⟨rfl, .inl ⟨rfl, rfl⟩⟩, ⟨rfl, .inl ⟨rfl, rfl⟩⟩, fun q h => (by cases h), fun q h => (by cases h), fun q h => (by cases h)⟩, h.2⟩
theorem t3_of {B : Nat} {w : World} {r p0 p1 n c1 c2 c3 : Nat} {x1 x2 x3 : List Value} (h1 : w.ownsRow B 3 1 (.slice (some ⟨r, 0, none⟩) n c1) n x1) (h2 : w.ownsRow B 21 1 (.slice (some ⟨p0, 0, none⟩) n c2) n x2) (h3 : w.ownsRow B 21 1 (.slice (some ⟨p1, 0, none⟩) n c3) n x3) (d1 : r ≠ p0) (d2 : r ≠ p1) (d3 : p0 ≠ p1) : T3 B w (.slice (some ⟨r, 0, none⟩) n c1) (.slice (some ⟨p0, 0, none⟩) n c2) (.slice (some ⟨p1, 0, none⟩) n c3) n n n x1 x2 x3 :=
  ⟨h1, h2, h3, fun q a b => d1 (by injection a with a; injection b with b; exact a.trans b.symm), fun q a b => d2 (by injection a with a; injection b with b; exact a.trans b.symm), fun q a b => d3 (by injection a with a; injection b with b; exact a.trans b.symm)⟩
theorem t3_post {n : Nat} {f g h : Nat → Int} {c : Int} {X : World} {e : Ending} {w' : World} (hh : (∃ ua ub uc, e = .returned (.tuple #[.agg #[ua, ub, uc], .int .i64 c]) ∧ T3 X.heap.size w' ua ub uc n n n (valR n f) (v32 n g) (v32 n h)) ∧ Below X.heap.size X w') : PostU n f g h c X e w' := by
  obtain ⟨⟨ua, ub, uc, rfl, T⟩, hb⟩ := hh
  obtain ⟨a1, c1, rfl⟩ := own_form T.o1
  obtain ⟨a2, c2, rfl⟩ := own_form T.o2
  obtain ⟨a3, c3, rfl⟩ := own_form T.o3
  exact ⟨⟨a1, c1, a2, c2, a3, c3, rfl, T⟩, hb⟩
theorem startU (G : List Gp) (C : List Cf) (lG : G.length ≤ 2932031007317) (lC : C.length ≤ 4398046511000) : ∃ (n : Nat) (f g h : Nat → Int) (c : Int), n ≤ 64 ∧ (∀ (X : World) (vg vc : Value), Fl 5 Gp.cs X vg G → Fl 4 Cf.cs X vc C → Calls Try.prog 25 #[.agg #[vg, vc]] X (PostU n f g h c X)) ∧ ∀ (X : World) (vg vc : Value), Fl 5 Gp.cs X vg G → Fl 4 Cf.cs X vc C → Calls Try.prog 24 #[.agg #[vg, vc]] X (PostU n f g h c X) := by
  cases hg : gridB G C with
  | false => exact ⟨0, _, _, _, 70, by omega, fun X vg vc h1 h2 => (start_bad G C vg vc X h1 h2 lG lC hg).mono fun e w' h => zero_post h, fun X vg vc h1 h2 => (refStart_bad G C vg vc X h1 h2 lG lC hg).mono fun e w' h => zero_post h⟩
  | true =>
    refine ⟨G.length, _, _, _, 0, grid_len hg, fun X vg vc h1 h2 => (start_ok G C vg vc X h1 h2 lG lC hg).mono fun e w' h => ?_, fun X vg vc h1 h2 => (refStart_ok G C vg vc X h1 h2 lG lC hg).mono fun e w' h => t3_post h⟩
    obtain ⟨⟨r, p0, p1, e1, o1, o2, o3, d1, d2, d3⟩, hb⟩ := h
    exact t3_post ⟨⟨_, _, _, e1, t3_of o1 o2 o3 d1 d2 d3⟩, hb⟩
theorem stepU (G : List Gp) (C : List Cf) (A I W : List Int) (M : Nat) (lG : G.length ≤ 2932031007317) (lC : C.length ≤ 4398046511000) (lA : A.length ≤ 17592186044000) (lI : I.length ≤ 35184372088000) (lW : W.length ≤ 35184372088000) (okI : ∀ x ∈ I, inI32 x) (okW : ∀ x ∈ W, inI32 x) (hM : M < 18446744073709551616) : ∃ (n : Nat) (f g h : Nat → Int) (c : Int), n ≤ 64 ∧ (∀ (X : World) (vg vc v1 v2 v3 : Value), Fl 5 Gp.cs X vg G → Fl 4 Cf.cs X vc C → Fl 1 n64 X v1 A → Fl 1 n32 X v2 I → Fl 1 n32 X v3 W → Calls Try.prog 32 #[.agg #[vg, vc], .agg #[v1, v2, v3], .int .u64 (M : Int)] X (PostU n f g h c X)) ∧ ∀ (X : World) (vg vc v1 v2 v3 : Value), Fl 5 Gp.cs X vg G → Fl 4 Cf.cs X vc C → Fl 1 n64 X v1 A → Fl 1 n32 X v2 I → Fl 1 n32 X v3 W → Calls Try.prog 31 #[.agg #[vg, vc], .agg #[v1, v2, v3], .int .u64 (M : Int)] X (PostU n f g h c X) := by
  cases hg : gridB G C with
  | false => exact ⟨0, _, _, _, 70, by omega, fun X vg vc v1 v2 v3 h1 h2 h3 h4 h5 => (step_bad1 G C A I W vg vc v1 v2 v3 M X h1 h2 h3 h4 h5 lG lC lA lI lW hg).mono fun e w' h => zero_post h, fun X vg vc v1 v2 v3 h1 h2 h3 h4 h5 => (refStep_bad1 G C A I W vg vc v1 v2 v3 M X h1 h2 h3 h4 h5 lG lC lA lI lW hg).mono fun e w' h => zero_post h⟩
  | true =>
    cases hf : fitsB G C A I W with
    | false => exact ⟨0, _, _, _, 71, by omega, fun X vg vc v1 v2 v3 h1 h2 h3 h4 h5 => (step_bad2 G C A I W vg vc v1 v2 v3 M X h1 h2 h3 h4 h5 lG lC lA lI lW okI hg hf).mono fun e w' h => zero_post h, fun X vg vc v1 v2 v3 h1 h2 h3 h4 h5 => (refStep_bad2 G C A I W vg vc v1 v2 v3 M X h1 h2 h3 h4 h5 lG lC lA lI lW okI hg hf).mono fun e w' h => zero_post h⟩
    | true =>
      refine ⟨G.length, _, _, _, 0, grid_len hg, fun X vg vc v1 v2 v3 h1 h2 h3 h4 h5 => (step_ok G C A I W vg vc v1 v2 v3 M X h1 h2 h3 h4 h5 lG lC lA lI lW okI okW hM hg hf).mono fun e w' h => ?_, fun X vg vc v1 v2 v3 h1 h2 h3 h4 h5 => (refStep_ok G C A I W vg vc v1 v2 v3 M X h1 h2 h3 h4 h5 lG lC lA lI lW okI okW hM hg hf).mono fun e w' h => t3_post h⟩
      obtain ⟨⟨r, p0, p1, e1, o1, o2, o3, d1, d2, d3⟩, hb⟩ := h
      exact t3_post ⟨⟨_, _, _, e1, t3_of o1 o2 o3 d1 d2 d3⟩, hb⟩
/-- What is spoilt lies elsewhere. -/
theorem T3.spared {B : Nat} {w w' : World} {va vb vc : Value} {k1 k2 k3 : Nat} {x1 x2 x3 : List Value} {S : Nat → Prop} (h : T3 B w va vb vc k1 k2 k3 x1 x2 x3) (O : Only S w w') (hS : ∀ q, B ≤ q → q < w.heap.size → va.ownBlock = some q ∨ vb.ownBlock = some q ∨ vc.ownBlock = some q → ¬ S q) : T3 B w' va vb vc k1 k2 k3 x1 x2 x3 :=
  ⟨own_only2 h.o1 O (fun q hq => hS q (own_lt h.o1 q hq).1 (own_lt h.o1 q hq).2 (.inl hq)), own_only2 h.o2 O (fun q hq => hS q (own_lt h.o2 q hq).1 (own_lt h.o2 q hq).2 (.inr (.inl hq))), own_only2 h.o3 O (fun q hq => hS q (own_lt h.o3 q hq).1 (own_lt h.o3 q hq).2 (.inr (.inr hq))), h.d12, h.d13, h.d23⟩
theorem T3.blk {B : Nat} {w : World} {va vb vc : Value} {k1 k2 k3 : Nat} {x1 x2 x3 : List Value} (h : T3 B w va vb vc k1 k2 k3 x1 x2 x3) {q : Nat} (hq : blk3 va vb vc q) : B ≤ q ∧ q < w.heap.size := by
  rcases hq with hq | hq | hq
  · exact own_lt h.o1 q hq
  · exact own_lt h.o2 q hq
  · exact own_lt h.o3 q hq
end Go.Proofs.Ytbonmajnkbggcab
namespace Go.Proofs.Ytbonmajnkbggcab
open Go.RowKit
set_option linter.unusedVariables false


theorem fitsF_get {G : List Gp} {A I W : List Int} (h : fitsF G A I W = true) (h1 : A.length = G.length) (h2 : I.length = G.length) (h3 : W.length = G.length) (k : Nat) (hk : k < G.length) : fitB G[k] (A[k]'(by omega)) (I[k]'(by omega)) (W[k]'(by omega)) = true := by
  have hd : ∀ m, m ≤ G.length → fitsF (G.drop m) (A.drop m) (I.drop m) (W.drop m) = true := by
    intro m
    induction m with
    | zero => intro _; simpa using h
    | succ m ih =>
      intro hm
      have := ih (by omega)
      rw [fitsF_step G A I W m (by omega) (by omega) (by omega) (by omega)] at this
      simp only [Bool.and_eq_true] at this
      exact this.2
  have := hd k (by omega)
  rw [fitsF_step G A I W k (by omega) (by omega) (by omega) (by omega)] at this
  simp only [Bool.and_eq_true] at this
  exact this.1
theorem fitsF_of {G : List Gp} {A I W : List Int} (h1 : A.length = G.length) (h2 : I.length = G.length) (h3 : W.length = G.length) (h : ∀ k (hk : k < G.length), fitB G[k] (A[k]'(by omega)) (I[k]'(by omega)) (W[k]'(by omega)) = true) : fitsF G A I W = true := by
  have hd : ∀ m, m ≤ G.length → fitsF (G.drop (G.length - m)) (A.drop (G.length - m)) (I.drop (G.length - m)) (W.drop (G.length - m)) = true := by
    intro m
    induction m with
    | zero => intro _; exact fitsF_end G A I W _ (by omega)
    | succ m ih =>
      intro hm
      rw [fitsF_step G A I W (G.length - (m + 1)) (by omega) (by omega) (by omega) (by omega), h _ (by omega), show G.length - (m + 1) + 1 = G.length - m by omega, ih (by omega)]
      rfl
  have := hd G.length (Nat.le_refl _)
  simpa using this
theorem clearF_get {A : List Int} : ∀ {C : List Cf}, clearF A C = true → ∀ c ∈ C, atI A c.a = 0 ∨ atI A c.b = 0 := by
  intro C
  induction C with
  | nil => intro _ c hc; cases hc
  | cons d C ih =>
    intro h c hc
    unfold clearF at h
    simp only [Bool.and_eq_true, Bool.not_eq_true', Bool.and_eq_false_iff, decide_eq_false_iff_not, Classical.not_not] at h
    rcases List.mem_cons.1 hc with rfl | hc
    · exact h.1
    · exact ih h.2 c hc
theorem clearF_of {A : List Int} : ∀ {C : List Cf}, (∀ c ∈ C, atI A c.a = 0 ∨ atI A c.b = 0) → clearF A C = true := by
  intro C
  induction C with
  | nil => intro _; rfl
  | cons d C ih =>
    intro h
    unfold clearF
    rw [ih (fun c hc => h c (List.mem_cons_of_mem _ hc)), Bool.and_true]
    rcases h d List.mem_cons_self with h | h <;> simp [h]
theorem up_rng {x : Int} (h : inI32 x) (h0 : 0 ≤ x) : 1 ≤ upF x ∧ upF x ≤ 2147483647 ∧ (x < 2147483647 → upF x = x + 1) := by
  unfold inI32 at h
  unfold upF
  by_cases e : x = 2147483647
  · rw [if_pos e]; omega
  · rw [if_neg e, if_neg (by omega)]; omega
/-- What a group shows next: by itself, or it starts. -/
theorem beg_at {G : List Gp} {C : List Cf} {A W : List Int} {M : Nat} {f0 : Nat → Int} (j : Nat) : ∀ m, begF G C A W M f0 m j = f0 j ∨ (A.getD j 0 = 0 ∧ begF G C A W M f0 m j = firstF (G.getD j gp0)) := by
  intro m
  induction m with
  | zero => exact .inl rfl
  | succ m ih =>
    unfold begF
    by_cases hs : startB C A W M G.length (begF G C A W M f0 m) m = true
    · rw [if_pos hs]
      unfold updF
      by_cases e : j = m
      · subst e
        rw [if_pos rfl]
        unfold startB at hs
        simp only [Bool.and_eq_true, decide_eq_true_eq] at hs
        exact .inr ⟨hs.1, rfl⟩
      · rw [if_neg e]; exact ih
    · rw [if_neg hs]; exact ih
theorem beg_clear {G : List Gp} {C : List Cf} {A W : List Int} {M : Nat} {f0 : Nat → Int} (hg : gridB G C = true) (h0 : ∀ c ∈ C, f0 c.a.toNat = 0 ∨ f0 c.b.toNat = 0) : ∀ m, m ≤ G.length → ∀ c ∈ C, begF G C A W M f0 m c.a.toNat = 0 ∨ begF G C A W M f0 m c.b.toNat = 0 := by
  have hcf : ∀ c ∈ C, 0 ≤ c.a ∧ c.a < c.b ∧ c.b < (G.length : Int) := by
    intro c hc
    obtain ⟨i, hi, e⟩ := List.getElem_of_mem hc
    have := grid_cf hg i hi
    rw [e] at this
    exact ⟨this.1, this.2.1, this.2.2.1⟩
  have hne : ∀ (k : Nat) (hk : k < C.length), C[k].a.toNat ≠ C[k].b.toNat := fun i hi => by have := hcf C[i] (List.getElem_mem hi); omega
  intro m
  induction m with
  | zero => intro _; exact h0
  | succ m ih =>
    intro hm c hc
    have ihc := ih (by omega) c hc
    have hb := hcf c hc
    unfold begF
    by_cases hs : startB C A W M G.length (begF G C A W M f0 m) m = true
    · rw [if_pos hs]
      unfold startB at hs
      simp only [Bool.and_eq_true, decide_eq_true_eq] at hs
      have hz := and_zero.1 hs.2.2.2
      have key : ∀ j, j < G.length → pairB m j c = true → begF G C A W M f0 m j = 0 := by
        intro j hj hp
        have := hz j
        rw [foM_bit m j hne C.length (Nat.le_refl _), List.take_length, litM_bit, List.any_eq_true] at this
        refine Classical.byContradiction fun hf => this ⟨⟨c, hc, hp⟩, by simp [hj, hf]⟩
      unfold updF
      by_cases e1 : c.a.toNat = m
      · right
        rw [if_neg (by omega)]
        refine key _ (by omega) ?_
        unfold pairB
        simp [e1]
      · by_cases e2 : c.b.toNat = m
        · left
          rw [if_neg e1]
          refine key _ (by omega) ?_
          unfold pairB
          simp [e2]
        · rw [if_neg e1, if_neg e2]; exact ihc
    · rw [if_neg hs]; exact ihc
theorem alone_red {g : Gp} {i : Int} {b : Bool} : aloneF g 0 i b = 0 := by unfold aloneF; simp
theorem lst_get {n : Nat} {f : Nat → Int} {k : Nat} (h : k < (lst64 n f).length) : (lst64 n f)[k] = f k := by simp [lst64]
theorem lst_getD {n : Nat} {f : Nat → Int} {k : Nat} (h : k < n) : (lst64 n f).getD k 0 = f k := by simp [lst64, List.getD_eq_getElem?_getD, h]
/-- One group. -/
theorem fit_next {g : Gp} {a i w v : Int} {b : Bool} (h : fitB g a i w = true) (hi : inI32 i) (hw : inI32 w) (hv : v = aloneF g a i b ∨ (a = 0 ∧ v = firstF g)) (hl : g.lead ≤ 60) (ha : g.amber ≤ 60) : fitB g v (if v = a then upF i else 1) (if v = 2 then 0 else upF w) = true := by
  unfold fitB at h
  simp only [Bool.and_eq_true, Bool.or_eq_true, decide_eq_true_eq, beq_iff_eq, decide_eq_decide] at h
  obtain ⟨h1, h2, h3, h4⟩ := h
  have ui := up_rng hi (by omega)
  have uw := up_rng hw (by omega)
  unfold inI32 at hi
  have key : ∀ x y z : Int, 1 ≤ y → 0 ≤ z → (x = 2 ↔ z = 0) → (x = 0 ∨ x = 2 ∨ (x = 1 ∧ y ≤ g.lead) ∨ (x = 3 ∧ y ≤ g.amber)) → fitB g x y z = true := by
    intro x y z q1 q2 q3 q4
    unfold fitB
    simp only [Bool.and_eq_true, Bool.or_eq_true, decide_eq_true_eq, beq_iff_eq, decide_eq_decide]
    exact ⟨q1, q2, q3, q4⟩
  have hvv : v = 0 ∨ v = 2 ∨ (v = 1 ∧ ((a = 1 ∧ i < g.lead) ∨ (a = 0 ∧ 0 < g.lead))) ∨ (v = 3 ∧ ((a = 3 ∧ i < g.amber) ∨ (a = 2 ∧ 0 < g.amber))) := by
    rcases hv with hv | ⟨e, hv⟩
    · unfold aloneF at hv
      by_cases c1 : a = 2
      · rw [if_pos c1] at hv
        split at hv
        · omega
        · split at hv
          · omega
          · split at hv <;> omega
      · rw [if_neg c1] at hv
        split at hv
        · split at hv <;> omega
        · split at hv
          · split at hv <;> omega
          · omega
    · unfold firstF at hv
      split at hv <;> omega
  apply key
  · split <;> omega
  · split <;> omega
  · split
    · omega
    · omega
  · rcases hvv with e | e | ⟨e, e'⟩ | ⟨e, e'⟩
    · left; exact e
    · right; left; exact e
    · right; right; left
      refine ⟨e, ?_⟩
      split
      · rcases e' with e' | e'
        · have := ui.2.2 (by omega); omega
        · omega
      · omega
    · right; right; right
      refine ⟨e, ?_⟩
      split
      · rcases e' with e' | e'
        · have := ui.2.2 (by omega); omega
        · omega
      · omega
theorem gp_lim {g : Gp} (h : gpB g = true) : g.lead ≤ 60 ∧ g.amber ≤ 60 := by
  unfold gpB amberB at h
  simp only [Bool.and_eq_true, decide_eq_true_eq] at h
  exact ⟨h.2.2.2.2.2, h.2.2.2.1.2⟩
/-- **Sound heads stay sound.** -/
theorem fits_next {G : List Gp} {C : List Cf} {A I W : List Int} {M : Nat} (hg : gridB G C = true) (hf : fitsB G C A I W = true) (okI : ∀ x ∈ I, inI32 x) (okW : ∀ x ∈ W, inI32 x) : fitsB G C (lst64 G.length (nxF G C A I W M)) (lst64 G.length (inF A I (nxF G C A I W M))) (lst64 G.length (awF W (nxF G C A I W M))) = true ∧ (∀ x ∈ lst64 G.length (inF A I (nxF G C A I W M)), inI32 x) ∧ ∀ x ∈ lst64 G.length (awF W (nxF G C A I W M)), inI32 x := by
  unfold fitsB at hf
  simp only [Bool.and_eq_true, decide_eq_true_eq] at hf
  obtain ⟨la, li, lw, hfit, hcl⟩ := hf
  have hcf : ∀ c ∈ C, 0 ≤ c.a ∧ c.a < c.b ∧ c.b < (G.length : Int) := by
    intro c hc
    obtain ⟨i, hi, e⟩ := List.getElem_of_mem hc
    have := grid_cf hg i hi
    rw [e] at this
    exact ⟨this.1, this.2.1, this.2.2.1⟩
  have hgt := fun k hk => fitsF_get hfit la li lw k hk
  have hnn : ∀ k (hk : k < G.length), 0 ≤ I[k]'(by omega) ∧ 0 ≤ W[k]'(by omega) := by
    intro k hk
    have := hgt k hk
    unfold fitB at this
    simp only [Bool.and_eq_true, decide_eq_true_eq] at this
    omega
  refine ⟨?_, ?_, ?_⟩
  · unfold fitsB
    simp only [Bool.and_eq_true, decide_eq_true_eq, lst_len, true_and]
    constructor
    · refine fitsF_of (lst_len _ _) (lst_len _ _) (lst_len _ _) fun k hk => ?_
      rw [lst_get, lst_get, lst_get]
      have hA : A.getD k 0 = A[k]'(by omega) := by simp [List.getD_eq_getElem?_getD, show k < A.length by omega]
      have hI : I.getD k 0 = I[k]'(by omega) := by simp [List.getD_eq_getElem?_getD, show k < I.length by omega]
      have hW : W.getD k 0 = W[k]'(by omega) := by simp [List.getD_eq_getElem?_getD, show k < W.length by omega]
      have hG : G.getD k gp0 = G[k] := by simp [List.getD_eq_getElem?_getD, hk]
      unfold inF awF
      rw [hA, hI, hW]
      have hb := beg_at (G := G) (C := C) (A := A) (W := W) (M := M) (f0 := alF G A I M) k G.length
      rw [hA, hG] at hb
      refine fit_next (b := M.testBit k) (hgt k hk) (okI _ (List.getElem_mem _)) (okW _ (List.getElem_mem _)) ?_ (gp_lim (grid_gp hg k hk)).1 (gp_lim (grid_gp hg k hk)).2
      rcases hb with hb | hb
      · left
        show nxF G C A I W M k = _
        unfold nxF
        rw [hb, alF_at hk (by omega), hI]
      · right; exact hb
    · refine clearF_of fun c hc => ?_
      have hb := hcf c hc
      have h0 := fun c hc => clearF_get hcl c hc
      unfold atI
      rw [lst_getD (by omega), lst_getD (by omega)]
      refine beg_clear hg (fun c hc => ?_) G.length (Nat.le_refl _) c hc
      have hb := hcf c hc
      have := h0 c hc
      unfold atI at this
      unfold alF
      rcases this with h | h
      · left; rw [h]; exact alone_red
      · right; rw [h]; exact alone_red
  · intro x hx
    unfold lst64 at hx
    obtain ⟨k, hk, rfl⟩ := List.mem_map.1 hx
    have hk' : k < G.length := by simpa using hk
    have hI : I.getD k 0 = I[k]'(by omega) := by simp [List.getD_eq_getElem?_getD, show k < I.length by omega]
    unfold inF inI32
    rw [hI]
    have := up_rng (okI _ (List.getElem_mem (by omega))) (hnn k hk').1
    split <;> omega
  · intro x hx
    unfold lst64 at hx
    obtain ⟨k, hk, rfl⟩ := List.mem_map.1 hx
    have hk' : k < G.length := by simpa using hk
    have hW : W.getD k 0 = W[k]'(by omega) := by simp [List.getD_eq_getElem?_getD, show k < W.length by omega]
    unfold awF inI32
    rw [hW]
    have := up_rng (okW _ (List.getElem_mem (by omega))) (hnn k hk').2
    split <;> omega
end Go.Proofs.Ytbonmajnkbggcab
namespace Go.Proofs.Ytbonmajnkbggcab
open Go.RowKit
set_option linter.unusedVariables false


/-- the heads after k steps: what Start and next write, as three functions of the group's number -/
structure F3 where
  a : Nat → Int
  i : Nat → Int
  w : Nat → Int
def F3.next (G : List Gp) (C : List Cf) (h : F3) (M : Nat) : F3 :=
  let A := lst64 G.length h.a
  let I := lst64 G.length h.i
  let W := lst64 G.length h.w
  ⟨nxF G C A I W M, inF A I (nxF G C A I W M), awF W (nxF G C A I W M)⟩
def f30 : F3 := ⟨fun _ => 0, fun _ => 1, fun _ => 1⟩
def runF (G : List Gp) (C : List Cf) (Ms : List Nat) : Nat → F3
  | 0 => f30
  | k + 1 => F3.next G C (runF G C Ms k) (Ms.getD k 0)
def picF (G : List Gp) (C : List Cf) (Ms : List Nat) (k : Nat) : ByteArray := showS (lst64 G.length (runF G C Ms k).a)
def picsF (G : List Gp) (C : List Cf) (Ms : List Nat) (k : Nat) : List Value := (List.range (k + 1)).map fun j => .string (picF G C Ms j)
theorem picsF_len (G : List Gp) (C : List Cf) (Ms : List Nat) (k : Nat) : (picsF G C Ms k).length = k + 1 := by simp [picsF]
theorem picsF_zero (G : List Gp) (C : List Cf) (Ms : List Nat) : picsF G C Ms 0 = [.string (picF G C Ms 0)] := rfl
theorem picsF_succ (G : List Gp) (C : List Cf) (Ms : List Nat) (k : Nat) : picsF G C Ms (k + 1) = picsF G C Ms k ++ [.string (picF G C Ms (k + 1))] := by
  unfold picsF
  rw [List.range_succ, List.map_append]; rfl
def Okf (G : List Gp) (C : List Cf) (h : F3) : Prop := fitsB G C (lst64 G.length h.a) (lst64 G.length h.i) (lst64 G.length h.w) = true ∧ (∀ x ∈ lst64 G.length h.i, inI32 x) ∧ ∀ x ∈ lst64 G.length h.w, inI32 x
theorem okf_start (G : List Gp) (C : List Cf) : Okf G C f30 := by
  have h1 : ∀ x ∈ lst64 G.length (fun _ => (1 : Int)), inI32 x := by
    intro x hx
    unfold lst64 at hx
    obtain ⟨k, hk, rfl⟩ := List.mem_map.1 hx
    unfold inI32; omega
  refine ⟨?_, h1, h1⟩
  unfold fitsB
  simp only [Bool.and_eq_true, decide_eq_true_eq, lst_len, true_and]
  constructor
  · refine fitsF_of (lst_len _ _) (lst_len _ _) (lst_len _ _) fun k hk => ?_
    rw [lst_get, lst_get, lst_get]
    unfold f30 fitB
    simp
  · refine clearF_of fun c hc => .inl ?_
    unfold atI f30 lst64
    rw [List.getD_eq_getElem?_getD, List.getElem?_map]
    cases (List.range G.length)[c.a.toNat]? <;> rfl
theorem okf_next {G : List Gp} {C : List Cf} {h : F3} (hg : gridB G C = true) (ok : Okf G C h) (M : Nat) : Okf G C (F3.next G C h M) :=
  fits_next hg ok.1 ok.2.1 ok.2.2
theorem okf_run {G : List Gp} {C : List Cf} (hg : gridB G C = true) (Ms : List Nat) : ∀ k, Okf G C (runF G C Ms k)
  | 0 => okf_start G C
  | k + 1 => okf_next hg (okf_run hg Ms k) _
end Go.Proofs.Ytbonmajnkbggcab
namespace Go.Proofs.Ytbonmajnkbggcab
open Go.RowKit
set_option linter.unusedVariables false

set_option maxRecDepth 100000 in
set_option maxHeartbeats 4000000 in
theorem refShow_any (A : List Int) (v1 : Value) (a2 a3 : Option Addr) (n2 c2 n3 c3 : Nat) (w : World) (h1 : Fl 1 n64 w v1 A) (lA : A.length ≤ 17592186044000) :
    Calls Try.prog 19 #[.agg #[v1, .slice a2 n2 c2, .slice a3 n3 c3]] w fun e w' => e = .returned (.string (showS A)) ∧ Below w.heap.size w w' := by
  obtain ⟨a1, c1, rfl, k1⟩ := h1.nums
  clear h1
  have B0 : Has (w.alloc (.cells #[.slice a1 A.length c1, .slice a2 n2 c2, .slice a3 n3 c3] 29)) w.heap.size #[.slice a1 A.length c1, .slice a2 n2 c2, .slice a3 n3 c3] := Has.new _ _ _ rfl
  have hb0 : Below w.heap.size w (w.alloc (.cells #[.slice a1 A.length c1, .slice a2 n2 c2, .slice a3 n3 c3] 29)) := belN1
  go_enter Try.func19, Try.ntmps19
  go_wp2
  generalize (w.alloc (.cells #[.slice a1 A.length c1, .slice a2 n2 c2, .slice a3 n3 c3] 29)) = W0 at *
  go_loopw [3, 4] (fun s t wr => ∃ k : Nat, k ≤ A.length ∧ t = .int .i64 (k : Int) ∧ s = .string (showS (A.take k)) ∧ wr = W0) (fun _ t _ => A.length - (intOf t).toNat)
  case atStart => exact ⟨0, by omega, rfl, by simp [showS, strOfNums], rfl⟩
  case round =>
    obtain ⟨k, hkl, rfl, rfl, rfl⟩ := hrel
    obtain ⟨_, b1, _⟩ := id B0
    by_cases hlt : k < A.length
    · obtain ⟨g, o, rfl, hg, P⟩ := k1.resolve_left (by intro e; rw [e] at hlt; simp at hlt)
      have p0 := (hb0.cell (p := ⟨g, _, none⟩) hg).trans (P k hlt _ rfl)
      have hst : Hid (_ = _) := showS_step A k hlt
      have hz : ¬ 9223372036854775807 < (showS (A.take k)).size + 1 := by unfold showS; rw [strOfNums_size]; simp; omega
      have t1 : (k : Int) < (A.length : Int) := by omega
      have t0 : (0 : Int) ≤ (k : Int) := by omega
      have t2 : k + 1 ≤ A.length := hlt
      clear P k1
      generalize A[k] = x at *
      generalize showS (A.take k) = s at *
      by_cases d1 : x < 0
      · have e1 : Hid (letN x = 63) := letN_out (.inl d1)
        go_wp2
        go_roundw
        case rel => exact ⟨k + 1, by omega, by go_num, by rw [hst.out, e1.out]; rfl, by first | rfl | trivial⟩
        case measure => simp [intOf]; omega
      · by_cases d2 : x > 3
        · have e1 : Hid (letN x = 63) := letN_out (.inr (by omega))
          go_wp2
          go_roundw
          case rel => exact ⟨k + 1, by omega, by go_num, by rw [hst.out, e1.out]; rfl, by first | rfl | trivial⟩
          case measure => simp [intOf]; omega
        · have c : x = 0 ∨ x = 1 ∨ x = 2 ∨ x = 3 := by omega
          rcases c with rfl | rfl | rfl | rfl
          all_goals
            go_wp2
            go_roundw
            case rel => exact ⟨k + 1, by omega, by go_num, by rw [hst.out]; rfl, by first | rfl | trivial⟩
            case measure => simp [intOf]; omega
    · have t1 : ¬ (k : Int) < (A.length : Int) := by omega
      obtain rfl : k = A.length := by omega
      have hf : A.take A.length = A := List.take_length
      clear k1
      go_wp2
      go_ret
      exact ⟨by first | rfl | rw [hf], hb0⟩
end Go.Proofs.Ytbonmajnkbggcab
namespace Go.Proofs.Ytbonmajnkbggcab
open Go.RowKit
set_option linter.unusedVariables false

set_option maxRecDepth 100000 in
set_option maxHeartbeats 4000000 in
theorem run_bad (G : List Gp) (C : List Cf) (vg vc : Value) (am : Option Addr) (nm cm : Nat) (w : World) (h1 : Fl 5 Gp.cs w vg G) (h2 : Fl 4 Cf.cs w vc C) (lG : G.length ≤ 2932031007317) (lC : C.length ≤ 4398046511000) (hg : gridB G C = false) :
    Calls Try.prog 21 #[.agg #[vg, vc], .slice am nm cm] w fun e w' => e = .returned (.tuple #[.slice none 0 0, .int .i64 70]) ∧ Below w.heap.size w w' := by
  have hSt := fun (X : World) (hX : Below w.heap.size w X) => start_bad G C vg vc X (h1.below hX) (h2.below hX) lG lC hg
  obtain ⟨va, cg, rfl, -⟩ := h1.any
  obtain ⟨vb, cc, rfl, -⟩ := h2.any
  have B0 : Has (w.alloc (.cells #[.slice va G.length cg, .slice vb C.length cc] 25)) w.heap.size #[.slice va G.length cg, .slice vb C.length cc] := Has.new _ _ _ rfl
  have hb0 : Below w.heap.size w (w.alloc (.cells #[.slice va G.length cg, .slice vb C.length cc] 25)) := belN1
  clear h1 h2 hg
  go_enter Try.func21, Try.ntmps21
  go_wp2_with (go_at_call 25; (with_reducible refine Calls.mono (hSt _ (by exact hb0)) ?_); rintro e w2 ⟨rfl, hb2⟩; have hbM := bel_after hb0 hb0.size hb2; have R0 : Has (w2.alloc (.cells #[.slice none 0 0, .slice none 0 0, .slice none 0 0] 29)) w2.heap.size #[.slice none 0 0, .slice none 0 0, .slice none 0 0] := Has.new _ _ _ rfl; obtain ⟨_, r1, r2⟩ := id R0; have hbN := hbM.alloc hbM.size (.cells #[.slice none 0 0, .slice none 0 0, .slice none 0 0] 29); have zs := hbM.size; clear hb2)
  exact bodyPost_ret (v := .tuple #[.slice none 0 0, .int .i64 70]) (by simp [results, Try.results21, go_sem]) rfl ⟨rfl, hbN⟩
set_option maxRecDepth 100000 in
set_option maxHeartbeats 4000000 in
theorem refRun_bad (G : List Gp) (C : List Cf) (vg vc : Value) (am : Option Addr) (nm cm : Nat) (w : World) (h1 : Fl 5 Gp.cs w vg G) (h2 : Fl 4 Cf.cs w vc C) (lG : G.length ≤ 2932031007317) (lC : C.length ≤ 4398046511000) (hg : gridB G C = false) :
    Calls Try.prog 33 #[.agg #[vg, vc], .slice am nm cm] w fun e w' => e = .returned (.tuple #[.slice none 0 0, .int .i64 70]) ∧ Below w.heap.size w w' := by
  have hSt := fun (X : World) (hX : Below w.heap.size w X) => refStart_bad G C vg vc X (h1.below hX) (h2.below hX) lG lC hg
  obtain ⟨va, cg, rfl, -⟩ := h1.any
  obtain ⟨vb, cc, rfl, -⟩ := h2.any
  have B0 : Has (w.alloc (.cells #[.slice va G.length cg, .slice vb C.length cc] 25)) w.heap.size #[.slice va G.length cg, .slice vb C.length cc] := Has.new _ _ _ rfl
  have hb0 : Below w.heap.size w (w.alloc (.cells #[.slice va G.length cg, .slice vb C.length cc] 25)) := belN1
  clear h1 h2 hg
  go_enter Try.func33, Try.ntmps33
  go_wp2_with (go_at_call 24; (with_reducible refine Calls.mono (hSt _ (by exact hb0)) ?_); rintro e w2 ⟨rfl, hb2⟩; have hbM := bel_after hb0 hb0.size hb2; have R0 : Has (w2.alloc (.cells #[.slice none 0 0, .slice none 0 0, .slice none 0 0] 29)) w2.heap.size #[.slice none 0 0, .slice none 0 0, .slice none 0 0] := Has.new _ _ _ rfl; obtain ⟨_, r1, r2⟩ := id R0; have hbN := hbM.alloc hbM.size (.cells #[.slice none 0 0, .slice none 0 0, .slice none 0 0] 29); have zs := hbM.size; clear hb2)
  exact bodyPost_ret (v := .tuple #[.slice none 0 0, .int .i64 70]) (by simp [results, Try.results33, go_sem]) rfl ⟨rfl, hbN⟩
end Go.Proofs.Ytbonmajnkbggcab
namespace Go.Proofs.Ytbonmajnkbggcab
open Go.RowKit
set_option linter.unusedVariables false


theorem wpList_make_one {P : Program} (w : World) {ops : Array Oper} {rest : List Oper} {o : Oper} {a : Act} {Q : Exit → Act → World → Prop}
    (hg : o.guard = none) (l c : Operand) (t : TypeId) (hop : o.op = Op.makeSlice t l c)
    (base : Nat) (e : TypeId) (i : TypeInfo) (z : Value) (h1 : P.underlying t = some (.slice e)) (h2 : P.info? e = some i) (h3 : i.zero = some z) (h4 : i.size = 1) (hz : z.cells = #[z])
    (kl kc : IntKind) (C : Int) (n : Nat) (hn : 1 ≤ n) (hl : a.eval l = .int kl 1) (hc : a.eval c = .int kc C) (hC : C = (n : Int)) (b2 : i.bytes * n ≤ 281474976710656) (b3 : n ≤ maxLen) (b4 : base ≤ w.heap.size)
    (hK : ∀ w', w'.ownsRow base e 1 (.slice (some ⟨w.heap.size, 0, none⟩) 1 n) 1 [z] → w.grownBy w' none → wpList P ops Q rest (a.put o.dst (.slice (some ⟨w.heap.size, 0, none⟩) 1 n)) w') :
    wpList P ops Q (o :: rest) a w := by
  refine wpList_plain hg fun K hK' => ?_
  have h63' : (n : Int) ≤ 9223372036854775807 := by
    have h := b3
    simp [maxLen] at h
    omega
  have hb' : (i.bytes : Int) * (n : Int) ≤ 281474976710656 := by
    have h : ((i.bytes * n : Nat) : Int) ≤ 281474976710656 := by omega
    rwa [Int.natCast_mul] at h
  have hrun := run_make (P := P) w t e i z h1 h2 h3 kl kc 1 (n : Int) (by omega) (by omega) hb' h63'
  rw [Int.toNat_natCast, h4, hz, Nat.mul_one, show (1 : Int).toNat = 1 from rfl] at hrun
  have r1 : (w.alloc (.cells (madeCells #[z] n) e)).ownsRow base e 1 (.slice (some ⟨w.heap.size, 0, none⟩) 1 n) 1 [z] :=
    ⟨rfl, .inr ⟨w.heap.size, n, madeCells #[z] n, rfl, b4, heap_alloc_new w _, by omega, b3, by rw [size_madeCells, Nat.mul_one], by rw [toList_madeCells_one, Nat.mul_one, List.take_replicate, Nat.min_eq_left hn]; rfl⟩⟩
  subst hC
  unfold Oper.wp
  simp [execOp, hop, hl, hc, hrun, Result.andThen]
  exact hK' _ _ (hK _ r1 (World.grownBy_alloc w _ none))
theorem info9s : (Try.prog.info? 9).map (fun i => (i.zero, i.size, i.bytes)) = some (some (.string ⟨#[]⟩), 1, 16) := by kernel_rfl
end Go.Proofs.Ytbonmajnkbggcab
namespace Go.Proofs.Ytbonmajnkbggcab
open Go.RowKit
set_option linter.unusedVariables false

set_option maxRecDepth 100000 in
set_option maxHeartbeats 4000000 in
theorem run_ok (G : List Gp) (C : List Cf) (Ms : List Nat) (vg vc vm : Value) (w : World) (h1 : Fl 5 Gp.cs w vg G) (h2 : Fl 4 Cf.cs w vc C) (h3 : Fl 1 u64 w vm Ms) (lG : G.length ≤ 2932031007317) (lC : C.length ≤ 4398046511000) (lM : Ms.length ≤ 17592186044000) (hM : ∀ x ∈ Ms, x < 18446744073709551616) (hg : gridB G C = true) :
    Calls Try.prog 21 #[.agg #[vg, vc], vm] w fun e w' => (∃ g c, e = .returned (.tuple #[.slice (some ⟨g, 0, none⟩) (Ms.length + 1) c, .int .i64 0]) ∧ w'.ownsRow w.heap.size 9 1 (.slice (some ⟨g, 0, none⟩) (Ms.length + 1) c) (Ms.length + 1) (picsF G C Ms Ms.length)) ∧ Below w.heap.size w w' := by
  have hSt := fun (X : World) (hX : Below w.heap.size w X) => start_ok G C vg vc X (h1.below hX) (h2.below hX) lG lC hg
  have h64 := grid_len hg
  have hMk : ∀ k, Ms.getD k 0 < 18446744073709551616 := fun k => by
    by_cases h : k < Ms.length
    · rw [show Ms.getD k 0 = Ms[k] by simp [List.getD_eq_getElem?_getD, h]]; exact hM _ (List.getElem_mem h)
    · rw [show Ms.getD k 0 = 0 by simp [List.getD_eq_getElem?_getD, h]]; omega
  have hNx := fun (k : Nat) (X : World) (hX : Below w.heap.size w X) (u1 u2 u3 : Value) (f1 : Fl 1 n64 X u1 (lst64 G.length (runF G C Ms k).a)) (f2 : Fl 1 n32 X u2 (lst64 G.length (runF G C Ms k).i)) (f3 : Fl 1 n32 X u3 (lst64 G.length (runF G C Ms k).w)) => next_any G C _ _ _ vg vc u1 u2 u3 (Ms.getD k 0) X (h1.below hX) (h2.below hX) f1 f2 f3 (spOk_of hg (okf_run hg Ms k).1 (hMk k) lC (okf_run hg Ms k).2.1 (okf_run hg Ms k).2.2)
  have hSh := fun (k : Nat) (X : World) (u1 : Value) (a2 a3 : Option Addr) (c2 c3 : Nat) (f1 : Fl 1 n64 X u1 (lst64 G.length (runF G C Ms k).a)) => show_any (lst64 G.length (runF G C Ms k).a) u1 a2 a3 G.length c2 G.length c3 X f1 (by rw [lst_len]; omega)
  obtain ⟨va, cg, rfl, -⟩ := h1.any
  obtain ⟨vb, cc, rfl, -⟩ := h2.any
  obtain ⟨am, cm, rfl, km⟩ := h3.nums
  obtain ⟨i9, hi, hi0, hi1, hi2⟩ := info_parts info9s
  have B0 : Has (w.alloc (.cells #[.slice va G.length cg, .slice vb C.length cc] 25)) w.heap.size #[.slice va G.length cg, .slice vb C.length cc] := Has.new _ _ _ rfl
  have hb0 : Below w.heap.size w (w.alloc (.cells #[.slice va G.length cg, .slice vb C.length cc] 25)) := belN1
  clear h1 h2 h3 hg hM
  go_enter Try.func21, Try.ntmps21
  go_upto_region 2 with (go_at_call 25; (with_reducible refine Calls.mono (hSt _ (by exact hb0)) ?_); rintro e w2 ⟨⟨r, p0, p1, rfl, a0, a1, a2, n1, n2, n3⟩, hb2⟩; have hbM := bel_after hb0 hb0.size hb2; have BM := B0.below hb2; clear hb2)
  have z0 := hb0.size
  have z1 : w.heap.size < w2.heap.size := BM.1
  have bF := hbM.alloc hbM.size (.cells #[.slice (some ⟨r, 0, none⟩) G.length G.length, .slice (some ⟨p0, 0, none⟩) G.length G.length, .slice (some ⟨p1, 0, none⟩) G.length G.length] 29)
  have q1 := (own_lt a0 r rfl).2
  have q2 := (own_lt a1 p0 rfl).2
  have q3 := (own_lt a2 p1 rfl).2
  have T0 : T3 w.heap.size w2 (.slice (some ⟨r, 0, none⟩) G.length G.length) (.slice (some ⟨p0, 0, none⟩) G.length G.length) (.slice (some ⟨p1, 0, none⟩) G.length G.length) G.length G.length G.length (valR G.length (runF G C Ms 0).a) (v32 G.length (runF G C Ms 0).i) (v32 G.length (runF G C Ms 0).w) := t3_of (own_base a0 z0) (own_base a1 z0) (own_base a2 z0) n1 n2 n3
  replace T0 := T0.below (belN1 (o1 := .cells #[.slice (some ⟨r, 0, none⟩) G.length G.length, .slice (some ⟨p0, 0, none⟩) G.length G.length, .slice (some ⟨p1, 0, none⟩) G.length G.length] 29))
  have HH : Has (w2.alloc (.cells #[.slice (some ⟨r, 0, none⟩) G.length G.length, .slice (some ⟨p0, 0, none⟩) G.length G.length, .slice (some ⟨p1, 0, none⟩) G.length G.length] 29)) w2.heap.size #[.slice (some ⟨r, 0, none⟩) G.length G.length, .slice (some ⟨p0, 0, none⟩) G.length G.length, .slice (some ⟨p1, 0, none⟩) G.length G.length] := Has.new _ _ _ rfl
  have BX := BM.alloc (.cells #[.slice (some ⟨r, 0, none⟩) G.length G.length, .slice (some ⟨p0, 0, none⟩) G.length G.length, .slice (some ⟨p1, 0, none⟩) G.length G.length] 29)
  clear hbM BM a0 a1 a2 n1 n2 n3 B0 hb0
  have zW : w2.heap.size < ((w2.alloc (.cells #[.slice (some ⟨r, 0, none⟩) G.length G.length, .slice (some ⟨p0, 0, none⟩) G.length G.length, .slice (some ⟨p1, 0, none⟩) G.length G.length] 29))).heap.size := HH.1
  generalize (w2.alloc (.cells #[.slice (some ⟨r, 0, none⟩) G.length G.length, .slice (some ⟨p0, 0, none⟩) G.length G.length, .slice (some ⟨p1, 0, none⟩) G.length G.length] 29)) = X0 at *
  generalize w2.heap.size = Hb at *
  go_upto_region 5 with ((refine wpList_make_one _ rfl _ _ 41 rfl (w.heap.size) 9 i9 _ Try.underlying41 hi hi0 hi1 rfl .i64 .i64 ((Ms.length : Int) + 1) (Ms.length + 1) (by omega) rfl (by first | rfl | (simp [Act.eval]; omega) | (simp [Act.eval])) (by omega) (by rw [hi2]; omega) (by unfold maxLen; omega) (by exact bF.size) ?_); intro W0 own0 hg0; have HB0 := bel_after bF bF.size (grown_none hg0); have BY := BX.below (grown_none hg0); have HY := HH.below (grown_none hg0); have TY := T0.below (grown_none hg0); clear hg0)
  have zg : Hb < X0.heap.size := zW
  have gl := (own_lt own0 X0.heap.size rfl)
  generalize X0.heap.size = g0 at *
  obtain ⟨_, hx, _⟩ := id HY
  have c18 := hSh 0 W0 _ (some ⟨p0, 0, none⟩) (some ⟨p1, 0, none⟩) G.length G.length TY.f1
  go_upto_region 6 with (go_at_call 18; (with_reducible refine Calls.mono c18 ?_); rintro e w5 ⟨rfl, hb5⟩; have HB5 := bel_after HB0 HB0.size hb5; have B5 := BY.below hb5; have H5 := HY.below hb5; have T5 := TY.below hb5; have o5 := own_bel own0 hb5; have fz := o5.frozenAt; obtain ⟨y0, zz0⟩ := own_some o5 0 (by omega); clear hb5)
  have o6 : (w5.setCell ⟨g0, 0, none⟩ (.string (showS (lst64 G.length (runF G C Ms 0).a)))).ownsRow w.heap.size 9 1 (.slice (some ⟨g0, 0, none⟩) 1 (Ms.length + 1)) 1 (picsF G C Ms 0) := own_stored [.string (showS (lst64 G.length (runF G C Ms 0).a))] w5 _ 0 o5
  have T6 := T5.spared (only_of_set w5 g0 0 (.string (showS (lst64 G.length (runF G C Ms 0).a)))) (fun q _ _ h e => by
    subst e
    rcases h with h | h | h
    · have : r = q := by injection h
      omega
    · have : p0 = q := by injection h
      omega
    · have : p1 = q := by injection h
      omega)
  have H6 := H5.far (c := g0) (i := 0) (by omega) (.string (showS (lst64 G.length (runF G C Ms 0).a)))
  have B6 := B5.far (c := g0) (i := 0) (by omega) (.string (showS (lst64 G.length (runF G C Ms 0).a)))
  have hb6 : Below w.heap.size w (w5.setCell ⟨g0, 0, none⟩ (.string (showS (lst64 G.length (runF G C Ms 0).a)))) := HB5.setCell (p := ⟨g0, 0, none⟩) (by simp; omega) _
  clear T5 H5 B5 HB5 o5 fz zz0 y0 c18 hx TY HY BY HB0 own0 T0 HH BX bF
  have D0 : ¬ blk3 (.slice (some ⟨r, 0, none⟩) G.length G.length) (.slice (some ⟨p0, 0, none⟩) G.length G.length) (.slice (some ⟨p1, 0, none⟩) G.length G.length) Hb ∧ ¬ blk3 (.slice (some ⟨r, 0, none⟩) G.length G.length) (.slice (some ⟨p0, 0, none⟩) G.length G.length) (.slice (some ⟨p1, 0, none⟩) G.length G.length) g0 ∧ g0 ≠ Hb ∧ g0 ≠ w.heap.size := by
    have key : ∀ q, blk3 (.slice (some ⟨r, 0, none⟩) G.length G.length) (.slice (some ⟨p0, 0, none⟩) G.length G.length) (.slice (some ⟨p1, 0, none⟩) G.length G.length) q → q < Hb := by
      intro q h
      rcases h with h | h | h
      · have : r = q := by injection h
        omega
      · have : p0 = q := by injection h
        omega
      · have : p1 = q := by injection h
        omega
    exact ⟨fun h => by have := key _ h; omega, fun h => by have := key _ h; omega, by omega, by omega⟩
  generalize (w5.setCell ⟨g0, 0, none⟩ (.string (showS (lst64 G.length (runF G C Ms 0).a)))) = X1 at *
  go_wp2_with fail
  go_loopw [8, 29] (fun u t wr => ∃ (k : Nat) (ua ub uc : Value) (g : Nat), k ≤ Ms.length ∧ t = .int .i64 (k : Int) ∧ u = .slice (some ⟨g, 0, none⟩) (k + 1) (Ms.length + 1) ∧ Hid (wr.ownsRow w.heap.size 9 1 (.slice (some ⟨g, 0, none⟩) (k + 1) (Ms.length + 1)) (k + 1) (picsF G C Ms k)) ∧ Hid (T3 w.heap.size wr ua ub uc G.length G.length G.length (valR G.length (runF G C Ms k).a) (v32 G.length (runF G C Ms k).i) (v32 G.length (runF G C Ms k).w)) ∧ Hid (Has wr Hb #[ua, ub, uc]) ∧ Hid (Has wr w.heap.size #[.slice va G.length cg, .slice vb C.length cc]) ∧ Hid (¬ blk3 ua ub uc Hb ∧ ¬ blk3 ua ub uc g ∧ g ≠ Hb ∧ g ≠ w.heap.size) ∧ Hid (Below w.heap.size w wr)) (fun _ t _ => Ms.length - (intOf t).toNat)
  case atStart => exact ⟨0, _, _, _, g0, by omega, rfl, rfl, o6, T6, H6, B6, D0, hb6⟩
  case round =>
    clear o6 T6 H6 B6 D0 hb6
    obtain ⟨k, ua, ub, uc, g, hkl, rfl, rfl, own', T', H', B', D', hb'⟩ := hrel
    have own := own'.out
    have T := T'.out
    have Hx := H'.out
    have Bx := B'.out
    have hb := hb'.out
    obtain ⟨d1, d2, d3, d4⟩ := D'.out
    clear own' T' H' B' D' hb'
    obtain ⟨b1, e1, rfl⟩ := own_form T.o1
    obtain ⟨b2, e2, rfl⟩ := own_form T.o2
    obtain ⟨b3, e3, rfl⟩ := own_form T.o3
    obtain ⟨_, bx, _⟩ := id Bx
    obtain ⟨_, hx, hf⟩ := id Hx
    by_cases hlt : k < Ms.length
    · obtain ⟨gm, om, rfl, hgm, P⟩ := km.resolve_left (by intro e; rw [e] at hlt; simp at hlt)
      have pk := (hb.cell (p := ⟨gm, _, none⟩) hgm).trans (P k hlt _ rfl)
      have cN := hNx k wr hb _ _ _ T.f1 T.f2 T.f3
      have eM : Ms[k] = Ms.getD k 0 := by simp [List.getD_eq_getElem?_getD, hlt]
      rw [eM] at pk
      clear eM P
      obtain ⟨M, eM⟩ : ∃ M, Hid (M = Ms.getD k 0) := ⟨_, rfl⟩
      rw [← eM.out] at pk cN
      have t1 : (k : Int) < (Ms.length : Int) := by omega
      have t0 : (0 : Int) ≤ (k : Int) := by omega
      have t2 : k + 1 ≤ Ms.length := hlt
      go_upto_region 10 with (go_at_call 44; (with_reducible refine Calls.mono cN ?_); rintro e w4 ⟨⟨r', s0, s1, rfl, a0, a1, a2, n1, n2, n3⟩, hb4⟩; have H4 := Hx.below hb4; have B4 := Bx.below hb4; have o4 := own_bel own hb4; have b4 := bel_after hb hb.size hb4; obtain ⟨_, x1, x2⟩ := id H4)
      have O : Only (fun q => q = Hb) w4 (((w4.setCell ⟨Hb, 0, none⟩ (.slice (some ⟨r', 0, none⟩) G.length G.length)).setCell ⟨Hb, 1, none⟩ (.slice (some ⟨s0, 0, none⟩) G.length G.length)).setCell ⟨Hb, 2, none⟩ (.slice (some ⟨s1, 0, none⟩) G.length G.length)) := ((only_of_set _ _ _ _).trans (only_of_set _ _ _ _)).trans (only_of_set _ _ _ _)
      have HH : Has (((w4.setCell ⟨Hb, 0, none⟩ (.slice (some ⟨r', 0, none⟩) G.length G.length)).setCell ⟨Hb, 1, none⟩ (.slice (some ⟨s0, 0, none⟩) G.length G.length)).setCell ⟨Hb, 2, none⟩ (.slice (some ⟨s1, 0, none⟩) G.length G.length)) Hb #[.slice (some ⟨r', 0, none⟩) G.length G.length, .slice (some ⟨s0, 0, none⟩) G.length G.length, .slice (some ⟨s1, 0, none⟩) G.length G.length] := by simpa using ((H4.set 0 (by simp) (.slice (some ⟨r', 0, none⟩) G.length G.length)).set 1 (by simp) (.slice (some ⟨s0, 0, none⟩) G.length G.length)).set 2 (by simp) (.slice (some ⟨s1, 0, none⟩) G.length G.length)
      have zH := Hx.1
      have gw := (own_lt own g rfl).2
      have key : ∀ q, blk3 (.slice (some ⟨r', 0, none⟩) G.length G.length) (.slice (some ⟨s0, 0, none⟩) G.length G.length) (.slice (some ⟨s1, 0, none⟩) G.length G.length) q → wr.heap.size ≤ q ∧ q < w4.heap.size := by
        intro q h
        rcases h with h | h | h
        · have e : r' = q := by injection h
          subst e; exact own_lt a0 _ rfl
        · have e : s0 = q := by injection h
          subst e; exact own_lt a1 _ rfl
        · have e : s1 = q := by injection h
          subst e; exact own_lt a2 _ rfl
      have eR : runF G C Ms (k + 1) = F3.next G C (runF G C Ms k) M := by rw [eM.out]; rfl
      have T1 : T3 w.heap.size w4 (.slice (some ⟨r', 0, none⟩) G.length G.length) (.slice (some ⟨s0, 0, none⟩) G.length G.length) (.slice (some ⟨s1, 0, none⟩) G.length G.length) G.length G.length G.length (valR G.length (runF G C Ms (k + 1)).a) (v32 G.length (runF G C Ms (k + 1)).i) (v32 G.length (runF G C Ms (k + 1)).w) := by rw [eR]; exact t3_of (own_base a0 hb.size) (own_base a1 hb.size) (own_base a2 hb.size) n1 n2 n3
      have T2 := T1.spared O (fun q _ _ h e => by have := (key q h).1; omega)
      have B2 := B4.only O (by omega)
      have o2 := own_only2 o4 O (fun q hq h => by have e : g = q := (by injection hq); omega)
      have hb2 := bel_only b4 O (Nat.le_refl _) (fun q hq h => by omega)
      have zO := O.size
      clear T1 B4 o4 b4 H4 x1 x2 O a0 a1 a2 n1 n2 n3 eR cN pk hx hf bx T Hx Bx own
      generalize (((w4.setCell ⟨Hb, 0, none⟩ (.slice (some ⟨r', 0, none⟩) G.length G.length)).setCell ⟨Hb, 1, none⟩ (.slice (some ⟨s0, 0, none⟩) G.length G.length)).setCell ⟨Hb, 2, none⟩ (.slice (some ⟨s1, 0, none⟩) G.length G.length)) = Y at *
      obtain ⟨_, hy, _⟩ := id HH
      have cS := hSh (k + 1) Y _ (some ⟨s0, 0, none⟩) (some ⟨s1, 0, none⟩) G.length G.length T2.f1
      have eP : Hid (picsF G C Ms k ++ [.string (showS (lst64 G.length (runF G C Ms (k + 1)).a))] = picsF G C Ms (k + 1)) := (picsF_succ G C Ms k).symm
      have zb := hb.size
      go_upto_region 11 with (first
        | (go_at_call 18; (with_reducible refine Calls.mono cS ?_); rintro e w5 ⟨rfl, hb5⟩; have HB5 := bel_after hb2 hb2.size hb5; have B5 := B2.below hb5; have H5 := HH.below hb5; have T5 := T2.below hb5; have o5 := own_bel o2 hb5; have z5 := hb5.size; clear hb5)
        | (at_builtin; (refine wpList_append_fits _ rfl _ _ 41 rfl w.heap.size 9 i9 1 Try.underlying41 hi hi1 g (k + 1) (Ms.length + 1) (picsF G C Ms k) rfl (own_bel o5 belN1) ⟨w5.heap.size, 0, none⟩ 1 1 [.string (showS (lst64 G.length (runF G C Ms (k + 1)).a))] rfl rfl (cells_at (W := w5) rfl _ _) (all_one rfl) (by omega) ?_); intro y1 o1 hg1; rw [eP.out] at o1; have O1 := only_of_grown hg1; clear hg1))
      have sg : ∀ q, (some g : Option Nat) = some q → q = g := fun q h => by injection h with h; exact h.symm
      have T7 := T5.spared O1 (fun q _ _ h e => by have := (key q h).1; have := sg q e; omega)
      have H7 := H5.only O1 (fun e => by have := sg _ e; omega)
      have B7 := B5.only O1 (fun e => by have := sg _ e; omega)
      have lg := (own_lt o5 g rfl).1
      have b7 := bel_only HB5 O1 (Nat.le_refl _) (fun q hq e => by have := sg q e; omega)
      go_wp2_with fail
      go_roundw
      case rel => exact ⟨k + 1, _, _, _, g, by omega, by go_num, rfl, o1, T7, H7, B7, ⟨fun h => by have := (key _ h).1; omega, fun h => by have := key _ h; omega, by omega, by omega⟩, b7⟩
      case measure => simp [intOf]; omega
    · have t1 : ¬ (k : Int) < (Ms.length : Int) := by omega
      obtain rfl : k = Ms.length := by omega
      go_wp2_with fail
      exact bodyPost_ret (v := .tuple #[.slice (some ⟨g, 0, none⟩) (Ms.length + 1) (Ms.length + 1), .int .i64 0]) (by simp [results, Try.results21, go_sem]) rfl ⟨⟨g, _, rfl, own⟩, hb⟩
end Go.Proofs.Ytbonmajnkbggcab
namespace Go.Proofs.Ytbonmajnkbggcab
open Go.RowKit
set_option linter.unusedVariables false


theorem own_built {w : World} {base e : Nat} {v : Value} (hb : base ≤ w.heap.size) : (w.alloc (.cells #[v] e)).ownsRow base e 1 (.slice (some ⟨w.heap.size, 0, none⟩) 1 1) 1 [v] :=
  ⟨rfl, .inr ⟨w.heap.size, 1, #[v], rfl, hb, heap_alloc_new w _, by omega, by unfold maxLen; omega, rfl, rfl⟩⟩
set_option maxRecDepth 100000 in
set_option maxHeartbeats 4000000 in
theorem refRun_ok (G : List Gp) (C : List Cf) (Ms : List Nat) (vg vc vm : Value) (w : World) (h1 : Fl 5 Gp.cs w vg G) (h2 : Fl 4 Cf.cs w vc C) (h3 : Fl 1 u64 w vm Ms) (lG : G.length ≤ 2932031007317) (lC : C.length ≤ 4398046511000) (lM : Ms.length ≤ 8796093022000) (hM : ∀ x ∈ Ms, x < 18446744073709551616) (hg : gridB G C = true) :
    Calls Try.prog 33 #[.agg #[vg, vc], vm] w fun e w' => (∃ g c, e = .returned (.tuple #[.slice (some ⟨g, 0, none⟩) (Ms.length + 1) c, .int .i64 0]) ∧ w'.ownsRow w.heap.size 9 1 (.slice (some ⟨g, 0, none⟩) (Ms.length + 1) c) (Ms.length + 1) (picsF G C Ms Ms.length)) ∧ Below w.heap.size w w' := by
  have hSt := fun (X : World) (hX : Below w.heap.size w X) => refStart_ok G C vg vc X (h1.below hX) (h2.below hX) lG lC hg
  have h64 := grid_len hg
  have hMk : ∀ k, Ms.getD k 0 < 18446744073709551616 := fun k => by
    by_cases h : k < Ms.length
    · rw [show Ms.getD k 0 = Ms[k] by simp [List.getD_eq_getElem?_getD, h]]; exact hM _ (List.getElem_mem h)
    · rw [show Ms.getD k 0 = 0 by simp [List.getD_eq_getElem?_getD, h]]; omega
  have hNx := fun (k : Nat) (X : World) (hX : Below w.heap.size w X) (u1 u2 u3 : Value) (f1 : Fl 1 n64 X u1 (lst64 G.length (runF G C Ms k).a)) (f2 : Fl 1 n32 X u2 (lst64 G.length (runF G C Ms k).i)) (f3 : Fl 1 n32 X u3 (lst64 G.length (runF G C Ms k).w)) => refStep_ok G C _ _ _ vg vc u1 u2 u3 (Ms.getD k 0) X (h1.below hX) (h2.below hX) f1 f2 f3 lG lC (by rw [lst_len]; omega) (by rw [lst_len]; omega) (by rw [lst_len]; omega) (okf_run hg Ms k).2.1 (okf_run hg Ms k).2.2 (hMk k) hg (okf_run hg Ms k).1
  have hSh := fun (k : Nat) (X : World) (u1 : Value) (a2 a3 : Option Addr) (c2 c3 : Nat) (f1 : Fl 1 n64 X u1 (lst64 G.length (runF G C Ms k).a)) => refShow_any (lst64 G.length (runF G C Ms k).a) u1 a2 a3 G.length c2 G.length c3 X f1 (by rw [lst_len]; omega)
  obtain ⟨va, cg, rfl, -⟩ := h1.any
  obtain ⟨vb, cc, rfl, -⟩ := h2.any
  obtain ⟨am, cm, rfl, km⟩ := h3.nums
  obtain ⟨i9, hi, hi0, hi1, hi2⟩ := info_parts info9s
  have B0 : Has (w.alloc (.cells #[.slice va G.length cg, .slice vb C.length cc] 25)) w.heap.size #[.slice va G.length cg, .slice vb C.length cc] := Has.new _ _ _ rfl
  have hb0 : Below w.heap.size w (w.alloc (.cells #[.slice va G.length cg, .slice vb C.length cc] 25)) := belN1
  clear h1 h2 h3 hg hM
  go_enter Try.func33, Try.ntmps33
  go_upto_region 2 with (go_at_call 24; (with_reducible refine Calls.mono (hSt _ (by exact hb0)) ?_); rintro e w2 ⟨⟨na, nb, nc, rfl, T0⟩, hb2⟩; obtain ⟨p1, x1, rfl⟩ := own_form T0.o1; obtain ⟨p2, x2, rfl⟩ := own_form T0.o2; obtain ⟨p3, x3, rfl⟩ := own_form T0.o3; have hbM := bel_after hb0 hb0.size hb2; have BM := B0.below hb2; clear hb2)
  have z0 := hb0.size
  have z1 : w.heap.size < w2.heap.size := BM.1
  have bF := hbM.alloc hbM.size (.cells #[.slice p1 G.length x1, .slice p2 G.length x2, .slice p3 G.length x3] 29)
  have key0 : ∀ q, blk3 (.slice p1 G.length x1) (.slice p2 G.length x2) (.slice p3 G.length x3) q → w.heap.size < q ∧ q < w2.heap.size := by
    intro q h
    have : (w.alloc (.cells #[.slice va G.length cg, .slice vb C.length cc] 25)).heap.size = w.heap.size + 1 := by simp
    rcases h with h | h | h
    · have := own_lt T0.o1 q h; omega
    · have := own_lt T0.o2 q h; omega
    · have := own_lt T0.o3 q h; omega
  have T1 : T3 w.heap.size w2 (.slice p1 G.length x1) (.slice p2 G.length x2) (.slice p3 G.length x3) G.length G.length G.length (valR G.length (runF G C Ms 0).a) (v32 G.length (runF G C Ms 0).i) (v32 G.length (runF G C Ms 0).w) := ⟨own_base T0.o1 z0, own_base T0.o2 z0, own_base T0.o3 z0, T0.d12, T0.d13, T0.d23⟩
  have TX := T1.below (belN1 (o1 := .cells #[.slice p1 G.length x1, .slice p2 G.length x2, .slice p3 G.length x3] 29))
  have HH : Has (w2.alloc (.cells #[.slice p1 G.length x1, .slice p2 G.length x2, .slice p3 G.length x3] 29)) w2.heap.size #[.slice p1 G.length x1, .slice p2 G.length x2, .slice p3 G.length x3] := Has.new _ _ _ rfl
  have BX := BM.alloc (.cells #[.slice p1 G.length x1, .slice p2 G.length x2, .slice p3 G.length x3] 29)
  clear hbM BM T0 T1 B0 hb0
  have zW : w2.heap.size < ((w2.alloc (.cells #[.slice p1 G.length x1, .slice p2 G.length x2, .slice p3 G.length x3] 29))).heap.size := HH.1
  generalize (w2.alloc (.cells #[.slice p1 G.length x1, .slice p2 G.length x2, .slice p3 G.length x3] 29)) = X0 at *
  generalize w2.heap.size = Hb at *
  obtain ⟨_, hx, _⟩ := id HH
  have c19 := hSh 0 X0 _ p2 p3 x2 x3 TX.f1
  go_upto_region 5 with (go_at_call 19; (with_reducible refine Calls.mono c19 ?_); rintro e w5 ⟨rfl, hb5⟩; have HB5 := bel_after bF bF.size hb5; have B5 := BX.below hb5; have H5 := HH.below hb5; have T5 := TX.below hb5; have z5 := hb5.size; clear hb5)
  have o6 : (w5.alloc (.cells #[.string (showS (lst64 G.length (runF G C Ms 0).a))] 9)).ownsRow w.heap.size 9 1 (.slice (some ⟨w5.heap.size, 0, none⟩) (0 + 1) 1) (0 + 1) (picsF G C Ms 0) := own_built HB5.size
  have T6 := T5.below (belN1 (o1 := .cells #[.string (showS (lst64 G.length (runF G C Ms 0).a))] 9))
  have H6 := H5.alloc (.cells #[.string (showS (lst64 G.length (runF G C Ms 0).a))] 9)
  have B6 := B5.alloc (.cells #[.string (showS (lst64 G.length (runF G C Ms 0).a))] 9)
  have hb6 := HB5.alloc HB5.size (.cells #[.string (showS (lst64 G.length (runF G C Ms 0).a))] 9)
  have D0 : ¬ blk3 (.slice p1 G.length x1) (.slice p2 G.length x2) (.slice p3 G.length x3) Hb ∧ ¬ blk3 (.slice p1 G.length x1) (.slice p2 G.length x2) (.slice p3 G.length x3) w5.heap.size ∧ w5.heap.size ≠ Hb ∧ w5.heap.size ≠ w.heap.size :=
    ⟨fun h => by have := key0 _ h; omega, fun h => by have := key0 _ h; omega, by omega, by omega⟩
  clear T5 H5 B5 HB5 c19 hx TX HH BX bF key0
  have zG : w5.heap.size < (w5.alloc (.cells #[.string (showS (lst64 G.length (runF G C Ms 0).a))] 9)).heap.size := by simp
  generalize (w5.alloc (.cells #[.string (showS (lst64 G.length (runF G C Ms 0).a))] 9)) = X1 at *
  generalize w5.heap.size = g0 at *
  go_wp2_with fail
  go_loopw [8, 9] (fun u t wr => ∃ (k : Nat) (ua ub uc : Value) (g c : Nat), k ≤ Ms.length ∧ t = .int .i64 (k : Int) ∧ u = .slice (some ⟨g, 0, none⟩) (k + 1) c ∧ Hid (wr.ownsRow w.heap.size 9 1 (.slice (some ⟨g, 0, none⟩) (k + 1) c) (k + 1) (picsF G C Ms k)) ∧ Hid (T3 w.heap.size wr ua ub uc G.length G.length G.length (valR G.length (runF G C Ms k).a) (v32 G.length (runF G C Ms k).i) (v32 G.length (runF G C Ms k).w)) ∧ Hid (Has wr Hb #[ua, ub, uc]) ∧ Hid (Has wr w.heap.size #[.slice va G.length cg, .slice vb C.length cc]) ∧ Hid (¬ blk3 ua ub uc Hb ∧ ¬ blk3 ua ub uc g ∧ g ≠ Hb ∧ g ≠ w.heap.size) ∧ Hid (Below w.heap.size w wr)) (fun _ t _ => Ms.length - (intOf t).toNat)
  case atStart => exact ⟨0, _, _, _, g0, _, by omega, rfl, rfl, o6, T6, H6, B6, D0, hb6⟩
  case round =>
    clear o6 T6 H6 B6 D0 hb6
    obtain ⟨k, ua, ub, uc, g, c, hkl, rfl, rfl, own', T', H', B', D', hb'⟩ := hrel
    have own := own'.out
    have T := T'.out
    have Hx := H'.out
    have Bx := B'.out
    have hb := hb'.out
    obtain ⟨d1, d2, d3, d4⟩ := D'.out
    clear own' T' H' B' D' hb'
    obtain ⟨b1, e1, rfl⟩ := own_form T.o1
    obtain ⟨b2, e2, rfl⟩ := own_form T.o2
    obtain ⟨b3, e3, rfl⟩ := own_form T.o3
    by_cases hlt : k < Ms.length
    · obtain ⟨gm, om, rfl, hgm, P⟩ := km.resolve_left (by intro e; rw [e] at hlt; simp at hlt)
      have pk := (hb.cell (p := ⟨gm, _, none⟩) hgm).trans (P k hlt _ rfl)
      have cN := hNx k wr.drew hb.drew _ _ _ T.drew.f1 T.drew.f2 T.drew.f3
      have eMk : Hid (Ms[k] = Ms.getD k 0) := by show _ = _; simp [List.getD_eq_getElem?_getD, hlt]
      rw [eMk.out] at pk
      obtain ⟨M, eM⟩ : ∃ M, Hid (M = Ms.getD k 0) := ⟨_, rfl⟩
      rw [← eM.out] at pk cN
      have t1 : (k : Int) < (Ms.length : Int) := by omega
      have t0 : (0 : Int) ≤ (k : Int) := by omega
      have t2 : k + 1 ≤ Ms.length := hlt
      obtain ⟨_, hx, hf⟩ := id Hx.drew
      go_upto_region 8 with fail
      refine wp_region_noPanic ?_
      refine wp_region_held_drew (S := fun w' => (w'.cell? ⟨w.heap.size, 0, none⟩ = some (.slice va G.length cg) ∧ w'.cell? ⟨w.heap.size, 1, none⟩ = some (.slice vb C.length cc)) ∧ w'.cell? ⟨gm, om + k, none⟩ = some (.int .u64 (M : Int))) (by kernel_rfl) ?_ (fun hHeld => ?_)
      · (try dsimp only)
        exact ⟨⟨Bx.drew.2.1 0, Bx.drew.2.1 1⟩, pk⟩
      refine wpAnyH_take (i := 0) (oi := { dst := some 28, op := Op.load 25 (Operand.tmp 2), type := 25, pos := "heads.go:231", after := #[], guard := none }) (v := ?_) rfl (by kernel_rfl) (by kernel_rfl) (by kernel_rfl) (fun _ _ _ h => h) (Or.inl ⟨by rfl, ?_⟩) (by assumption) ?_
      rotate_left
      · intro wz hSz; (try dsimp only at hSz); go_simp; all_goals (with_reducible rfl)
      (try simp only [Act.put, List.setIfInBounds_toArray, List.set_cons_zero, List.set_cons_succ])
      refine wpAnyH_take (i := 2) (oi := { dst := some 30, op := Op.move (Operand.tmp 1), type := 31, pos := "heads.go:231", after := #[], guard := none }) (v := ?_) rfl (by kernel_rfl) (by kernel_rfl) (by kernel_rfl) (fun _ _ _ h => h) (Or.inl ⟨by rfl, ?_⟩) (by assumption) ?_
      rotate_left
      · intro wz hSz; (try dsimp only at hSz); go_simp; all_goals (with_reducible rfl)
      (try simp only [Act.put, List.setIfInBounds_toArray, List.set_cons_zero, List.set_cons_succ])
      refine wpAnyH_take (i := 3) (oi := { dst := some 31, op := Op.move (Operand.tmp 9), type := 3, pos := "heads.go:231", after := #[], guard := none }) (v := ?_) rfl (by kernel_rfl) (by kernel_rfl) (by kernel_rfl) (fun _ _ _ h => h) (Or.inl ⟨by rfl, ?_⟩) (by assumption) ?_
      rotate_left
      · intro wz hSz; (try dsimp only at hSz); go_simp; all_goals (with_reducible rfl)
      (try simp only [Act.put, List.setIfInBounds_toArray, List.set_cons_zero, List.set_cons_succ])
      refine wpAnyH_take (i := 4) (oi := { dst := some 32, op := Op.indexAddr 31 (Operand.tmp 30) (Operand.tmp 31), type := 0, pos := "heads.go:231", after := #[{ on := 2, ground := Ground.data }, { on := 3, ground := Ground.data }], guard := none }) (v := ?_) rfl (by kernel_rfl) (by kernel_rfl) (by kernel_rfl) (fun _ _ _ h => h) (Or.inl ⟨by rfl, ?_⟩) (by assumption) ?_
      rotate_left
      · intro wz hSz; (try dsimp only at hSz); go_simp; all_goals (with_reducible rfl)
      (try simp only [Act.put, List.setIfInBounds_toArray, List.set_cons_zero, List.set_cons_succ])
      refine wpAnyH_take (i := 5) (oi := { dst := some 33, op := Op.load 30 (Operand.tmp 32), type := 30, pos := "heads.go:231", after := #[{ on := 4, ground := Ground.data }], guard := none }) (v := ?_) rfl (by kernel_rfl) (by kernel_rfl) (by kernel_rfl) (fun _ _ _ h => h) (Or.inl ⟨by rfl, ?_⟩) (by assumption) ?_
      rotate_left
      · intro wz hSz; (try dsimp only at hSz); go_simp; all_goals (with_reducible rfl)
      (try simp only [Act.put, List.setIfInBounds_toArray, List.set_cons_zero, List.set_cons_succ])
      refine wpAnyH_ready (rs := [1]) (by kernel_rfl) (by simp) ?_
      refine AllReadyH.cons (o := { dst := some 29, op := Op.load 29 (Operand.tmp 6), type := 29, pos := "heads.go:231", after := #[], guard := none }) rfl (fun K hK => ?_) AllReadyH.nil
      go_simp
      refine hK.out _ _ ?_ (fun hHeld => ?_)
      · (try dsimp only)
        exact ⟨⟨Bx.drew.2.1 0, Bx.drew.2.1 1⟩, pk⟩
      clear hK K
      (try simp only [Act.put, List.setIfInBounds_toArray, List.set_cons_zero, List.set_cons_succ])
      refine wpAnyH_ready (rs := [6]) (by kernel_rfl) (by simp) ?_
      refine AllReadyH.cons (o := { dst := some 34, op := Op.call { callee := Callee.value (Operand.func 31), args := #[Operand.tmp 28, Operand.tmp 29, Operand.tmp 33], argTypes := #[25, 29, 30] }, type := 48, pos := "heads.go:231", after := #[{ on := 0, ground := Ground.data }, { on := 1, ground := Ground.data }, { on := 5, ground := Ground.data }], guard := none }) rfl (fun K hK => ?_) AllReadyH.nil
      go_simp
      (go_at_call 31; (with_reducible refine Calls.mono cN ?_); rintro e w4 ⟨⟨na, nb, nc, rfl, T1⟩, hb4⟩; obtain ⟨q1, y1, rfl⟩ := own_form T1.o1; obtain ⟨q2, y2, rfl⟩ := own_form T1.o2; obtain ⟨q3, y3, rfl⟩ := own_form T1.o3; have H4 := Hx.drew.below hb4; have B4 := Bx.drew.below hb4; have o4 := own_bel own.drew hb4; have b4 := bel_after hb.drew hb.drew.size hb4; have pk4 := (b4.cell (p := ⟨gm, _, none⟩) hgm).trans (P k hlt _ rfl); rw [eMk.out, ← eM.out] at pk4; obtain ⟨_, x1, x2⟩ := id H4)
      go_wp2_with fail
      refine hK.out _ _ ?_ (fun hHeld => ?_)
      · (try dsimp only)
        exact ⟨⟨B4.2.1 0, B4.2.1 1⟩, pk4⟩
      clear hK K
      (try simp only [Act.put, List.setIfInBounds_toArray, List.set_cons_zero, List.set_cons_succ])
      refine wpAnyH_take (i := 7) (oi := { dst := some 27, op := Op.move (Operand.tmp 34), type := 48, pos := "heads.go:231", after := #[{ on := 6, ground := Ground.data }], guard := none }) (v := ?_) rfl (by kernel_rfl) (by kernel_rfl) (by kernel_rfl) (fun _ _ _ h => h) (Or.inl ⟨by rfl, ?_⟩) (by assumption) ?_
      rotate_left
      · intro wz hSz; (try dsimp only at hSz); go_simp; all_goals (with_reducible rfl)
      (try simp only [Act.put, List.setIfInBounds_toArray, List.set_cons_zero, List.set_cons_succ])
      refine wpAnyH_take (i := 8) (oi := { dst := some 35, op := Op.extract (Operand.tmp 27) 0, type := 29, pos := "heads.go:231", after := #[{ on := 7, ground := Ground.data }], guard := none }) (v := ?_) rfl (by kernel_rfl) (by kernel_rfl) (by kernel_rfl) (fun _ _ _ h => h) (Or.inl ⟨by rfl, ?_⟩) (by assumption) ?_
      rotate_left
      · intro wz hSz; (try dsimp only at hSz); go_simp; all_goals (with_reducible rfl)
      (try simp only [Act.put, List.setIfInBounds_toArray, List.set_cons_zero, List.set_cons_succ])
      refine wpAnyH_take (i := 9) (oi := { dst := some 36, op := Op.extract (Operand.tmp 27) 1, type := 42, pos := "heads.go:231", after := #[{ on := 7, ground := Ground.data }, { on := 10, ground := Ground.gcOnly Departure.lateStores }], guard := none }) (v := ?_) rfl (by kernel_rfl) (by kernel_rfl) (by kernel_rfl) (fun _ _ _ h => h) (Or.inl ⟨by rfl, ?_⟩) (by assumption) ?_
      rotate_left
      · intro wz hSz; (try dsimp only at hSz); go_simp; all_goals (with_reducible rfl)
      (try simp only [Act.put, List.setIfInBounds_toArray, List.set_cons_zero, List.set_cons_succ])
      have O : Only (fun q => q = Hb) w4 (((w4.setCell ⟨Hb, 0, none⟩ (.slice q1 G.length y1)).setCell ⟨Hb, 1, none⟩ (.slice q2 G.length y2)).setCell ⟨Hb, 2, none⟩ (.slice q3 G.length y3)) := ((only_of_set _ _ _ _).trans (only_of_set _ _ _ _)).trans (only_of_set _ _ _ _)
      have HH : Has (((w4.setCell ⟨Hb, 0, none⟩ (.slice q1 G.length y1)).setCell ⟨Hb, 1, none⟩ (.slice q2 G.length y2)).setCell ⟨Hb, 2, none⟩ (.slice q3 G.length y3)) Hb #[.slice q1 G.length y1, .slice q2 G.length y2, .slice q3 G.length y3] := by simpa using ((H4.set 0 (by simp) (.slice q1 G.length y1)).set 1 (by simp) (.slice q2 G.length y2)).set 2 (by simp) (.slice q3 G.length y3)
      have zH := Hx.1
      have zB := Bx.1
      have gw := (own_lt own g rfl).2
      have key : ∀ q, blk3 (.slice q1 G.length y1) (.slice q2 G.length y2) (.slice q3 G.length y3) q → wr.heap.size ≤ q ∧ q < w4.heap.size := by
        intro q h
        rcases h with h | h | h
        · exact own_lt T1.o1 q h
        · exact own_lt T1.o2 q h
        · exact own_lt T1.o3 q h
      have eR : runF G C Ms (k + 1) = F3.next G C (runF G C Ms k) M := by rw [eM.out]; rfl
      have T1' : T3 w.heap.size w4 (.slice q1 G.length y1) (.slice q2 G.length y2) (.slice q3 G.length y3) G.length G.length G.length (valR G.length (runF G C Ms (k + 1)).a) (v32 G.length (runF G C Ms (k + 1)).i) (v32 G.length (runF G C Ms (k + 1)).w) := by
        rw [eR]
        exact ⟨own_base T1.o1 hb.size, own_base T1.o2 hb.size, own_base T1.o3 hb.size, T1.d12, T1.d13, T1.d23⟩
      have T2 := T1'.spared O (fun q _ _ h e => by have := (key q h).1; omega)
      have B2 := B4.only O (by omega)
      have o2 := own_only2 o4 O (fun q hq h => by have e : g = q := (by injection hq); omega)
      have hb2 := bel_only b4 O (Nat.le_refl _) (fun q hq h => by omega)
      have pk2 : (((w4.setCell ⟨Hb, 0, none⟩ (.slice q1 G.length y1)).setCell ⟨Hb, 1, none⟩ (.slice q2 G.length y2)).setCell ⟨Hb, 2, none⟩ (.slice q3 G.length y3)).cell? ⟨gm, om + k, none⟩ = some (.int .u64 (M : Int)) := by have := (hb2.cell (p := ⟨gm, om + k, none⟩) hgm).trans (P k hlt _ rfl); rw [eMk.out, ← eM.out] at this; exact this
      refine wpAnyH_ready (rs := [10]) (by kernel_rfl) (by simp) ?_
      refine AllReadyH.cons (o := { dst := none, op := Op.store 29 (Operand.tmp 6) (Operand.tmp 35), type := 0, pos := "heads.go:231", after := #[{ on := 8, ground := Ground.data }, { on := 6, ground := Ground.chain }, { on := 0, ground := Ground.phase }, { on := 1, ground := Ground.phase }, { on := 2, ground := Ground.phase }, { on := 3, ground := Ground.phase }, { on := 4, ground := Ground.phase }, { on := 5, ground := Ground.phase }, { on := 6, ground := Ground.phase }, { on := 7, ground := Ground.phase }, { on := 8, ground := Ground.phase }, { on := 9, ground := Ground.textOnly Departure.lateStores }], guard := none }) rfl (fun K hK => ?_) AllReadyH.nil
      go_simp
      refine hK.out _ _ ?_ (fun hHeld => ?_)
      · (try dsimp only)
        exact ⟨⟨B2.2.1 0, B2.2.1 1⟩, pk2⟩
      clear hK K
      (try simp only [Act.put, List.setIfInBounds_toArray, List.set_cons_zero, List.set_cons_succ])
      refine wpAnyH_done (by kernel_rfl) ?_ _
      refine NoPanic.normal ?_
      have zO := O.size
      clear T1 T1' B4 o4 b4 H4 x1 x2 O eR cN pk pk4 pk2 hx hf T Hx Bx own P km
      generalize (((w4.setCell ⟨Hb, 0, none⟩ (.slice q1 G.length y1)).setCell ⟨Hb, 1, none⟩ (.slice q2 G.length y2)).setCell ⟨Hb, 2, none⟩ (.slice q3 G.length y3)) = Y at *
      obtain ⟨_, hy, _⟩ := id HH
      have cS := hSh (k + 1) Y _ q2 q3 y2 y3 T2.f1
      have eP : Hid (picsF G C Ms k ++ [.string (showS (lst64 G.length (runF G C Ms (k + 1)).a))] = picsF G C Ms (k + 1)) := (picsF_succ G C Ms k).symm
      have zb := hb.size
      have zz : wr.heap.size ≤ w4.heap.size := hb4.size
      go_upto_region 7 with (first
        | (go_at_call 19; (with_reducible refine Calls.mono cS ?_); rintro e w5 ⟨rfl, hb5⟩; have HB5 := bel_after hb2 hb2.size hb5; have B5 := B2.below hb5; have H5 := HH.below hb5; have T5 := T2.below hb5; have o5 := own_bel o2 hb5; have z5 := hb5.size; clear hb5)
        | (at_builtin; (refine wpList_append_mine _ rfl _ _ 41 rfl w.heap.size 9 i9 _ 1 16 Try.underlying41 hi hi0 hi1 hi2 rfl (by decide) (.slice (some ⟨g, 0, none⟩) (k + 1) c) (k + 1) (picsF G C Ms k) rfl (own_bel o5 belN1) ⟨w5.heap.size, 0, none⟩ 1 1 [.string (showS (lst64 G.length (runF G C Ms (k + 1)).a))] rfl rfl (cells_at (W := w5) rfl _ _) (all_one rfl) (by decide) (by unfold maxLen; omega) (by omega) (by simp; omega) ?_); intro g1 c1 y1' o1 hg1 hat1 _ _; rw [eP.out] at o1; have O1 := only_of_grown hg1; clear hg1))
      have sg : ∀ q, (Value.slice (some ⟨g, 0, none⟩) (k + 1) c).ownBlock = some q → q = g := fun q h => by injection h with h; exact h.symm
      have at1 : g1 = g ∨ w5.heap.size < g1 := by
        rcases hat1 with h | h
        · exact .inl (sg _ h)
        · simp at h; exact .inr (by omega)
      clear hat1
      have T7 := T5.spared O1 (fun q _ _ h e => by have := (key q h).1; have := sg q e; omega)
      have H7 := H5.only O1 (fun e => by have := sg _ e; omega)
      have B7 := B5.only O1 (fun e => by have := sg _ e; omega)
      have lg := (own_lt o5 g rfl).1
      have b7 := bel_only HB5 O1 (Nat.le_refl _) (fun q hq e => by have := sg q e; omega)
      go_wp2_with fail
      go_roundw
      case rel => exact ⟨k + 1, _, _, _, g1, c1, by omega, by go_num, rfl, o1, T7, H7, B7, ⟨fun h => by have := (key _ h).1; omega, fun h => by have := key _ h; omega, by omega, by omega⟩, b7⟩
      case measure => simp [intOf]; omega
    · have t1 : ¬ (k : Int) < (Ms.length : Int) := by omega
      obtain rfl : k = Ms.length := by omega
      go_wp2_with fail
      exact bodyPost_ret (v := .tuple #[.slice (some ⟨g, 0, none⟩) (Ms.length + 1) c, .int .i64 0]) (by simp [results, Try.results33, go_sem]) rfl ⟨⟨g, _, rfl, own⟩, hb⟩
end Go.Proofs.Ytbonmajnkbggcab
namespace Go.Proofs.Ytbonmajnkbggcab
open Go.RowKit
set_option linter.unusedVariables false


theorem runU (G : List Gp) (C : List Cf) (Ms : List Nat) (lG : G.length ≤ 2932031007317) (lC : C.length ≤ 4398046511000) (lM : Ms.length ≤ 8796093022000) (hM : ∀ x ∈ Ms, x < 18446744073709551616) :
    ∃ (n : Nat) (xs : List Value) (code : Int), n ≤ 8796093022001 ∧ (∀ j, j < n → ∃ s, xs[j]? = some (.string s)) ∧
      (∀ (X : World) (vg vc vm : Value), Fl 5 Gp.cs X vg G → Fl 4 Cf.cs X vc C → Fl 1 u64 X vm Ms → Calls Try.prog 21 #[.agg #[vg, vc], vm] X fun e w' => (∃ a c, e = .returned (.tuple #[.slice a n c, .int .i64 code]) ∧ w'.ownsRow X.heap.size 9 1 (.slice a n c) n xs) ∧ Below X.heap.size X w') ∧
      (∀ (X : World) (vg vc vm : Value), Fl 5 Gp.cs X vg G → Fl 4 Cf.cs X vc C → Fl 1 u64 X vm Ms → Calls Try.prog 33 #[.agg #[vg, vc], vm] X fun e w' => (∃ a c, e = .returned (.tuple #[.slice a n c, .int .i64 code]) ∧ w'.ownsRow X.heap.size 9 1 (.slice a n c) n xs) ∧ Below X.heap.size X w') := by
  cases hg : gridB G C with
  | false =>
    refine ⟨0, [], 70, by omega, fun j h => by omega, fun X vg vc vm h1 h2 h3 => ?_, fun X vg vc vm h1 h2 h3 => ?_⟩
    · obtain ⟨am, cm, rfl, -⟩ := h3.any
      exact (run_bad G C vg vc am Ms.length cm X h1 h2 lG lC hg).mono fun e w' h => ⟨⟨none, 0, h.1, World.ownsRow_nil _ _ _ _⟩, h.2⟩
    · obtain ⟨am, cm, rfl, -⟩ := h3.any
      exact (refRun_bad G C vg vc am Ms.length cm X h1 h2 lG lC hg).mono fun e w' h => ⟨⟨none, 0, h.1, World.ownsRow_nil _ _ _ _⟩, h.2⟩
  | true =>
    refine ⟨Ms.length + 1, picsF G C Ms Ms.length, 0, by omega, fun j h => ⟨picF G C Ms j, ?_⟩, fun X vg vc vm h1 h2 h3 => ?_, fun X vg vc vm h1 h2 h3 => ?_⟩
    · unfold picsF
      rw [List.getElem?_map, List.getElem?_range h]; rfl
    · exact (run_ok G C Ms vg vc vm X h1 h2 h3 lG lC (by omega) hM hg).mono fun e w' h => ⟨let ⟨g, c, h1, h2⟩ := h.1; ⟨some ⟨g, 0, none⟩, c, h1, h2⟩, h.2⟩
    · exact (refRun_ok G C Ms vg vc vm X h1 h2 h3 lG lC lM hM hg).mono fun e w' h => ⟨let ⟨g, c, h1, h2⟩ := h.1; ⟨some ⟨g, 0, none⟩, c, h1, h2⟩, h.2⟩
set_option maxRecDepth 100000 in
set_option maxHeartbeats 4000000 in
theorem runs (G : List Gp) (C : List Cf) (Ms : List Nat) (vg vc vm : Value) (w : World) (h1 : Fl 5 Gp.cs w vg G) (h2 : Fl 4 Cf.cs w vc C) (h3 : Fl 1 u64 w vm Ms) (lG : G.length ≤ 2932031007317) (lC : C.length ≤ 4398046511000) (lM : Ms.length ≤ 8796093022000) (hM : ∀ x ∈ Ms, x < 18446744073709551616) :
    Calls Try.prog 7 #[.agg #[vg, vc], vm] w fun e w' => e = .returned (.bool true) ∧ Below w.heap.size w w' := by
  have hRoom := fun (X : World) (hX : Below w.heap.size w X) => room_any G C [] [] [] Ms vg vc (.slice none 0 0) (.slice none 0 0) (.slice none 0 0) vm X (h1.below hX) (h2.below hX) (.inl ⟨rfl, rfl⟩) (.inl ⟨rfl, rfl⟩) (.inl ⟨rfl, rfl⟩) lG lC (by simp) (by simp) (by simp) (h3.below hX) (by omega)
  obtain ⟨n, xs, code, ln, hstr, s21, s33⟩ := runU G C Ms lG lC lM hM
  have k33 := fun (X : World) (hX : Below w.heap.size w X) => s33 X vg vc vm (h1.below hX) (h2.below hX) (h3.below hX)
  have k20 := fun (X : World) (hX : Below w.heap.size w X) (g1 e1 g2 e2 g3 e3 g4 e4 g5 e5 g6 e6 : Nat) (R : RoomR 0 X G C [] [] [] Ms g1 e1 g2 e2 g3 e3 g4 e4 g5 e5 g6 e6) => (kept_any G C [] [] [] Ms vg vc (.slice none 0 0) (.slice none 0 0) (.slice none 0 0) vm g1 e1 g2 e2 g3 e3 g4 e4 g5 e5 g6 e6 X (h1.below hX) (h2.below hX) (.inl ⟨rfl, rfl⟩) (.inl ⟨rfl, rfl⟩) (.inl ⟨rfl, rfl⟩) lG lC (by simp) (by simp) (by simp) (h3.below hX) (by omega) R : Calls Try.prog 20 #[.agg #[.slice (some ⟨g1, 0, none⟩) (G.length + 1) e1, .slice (some ⟨g2, 0, none⟩) (C.length + 1) e2, .slice (some ⟨g3, 0, none⟩) 1 e3, .slice (some ⟨g4, 0, none⟩) 1 e4, .slice (some ⟨g5, 0, none⟩) 1 e5, .slice (some ⟨g6, 0, none⟩) (Ms.length + 1) e6], .agg #[vg, vc], .agg #[.slice none 0 0, .slice none 0 0, .slice none 0 0], vm] X fun e w' => e = .returned (.bool true) ∧ Below X.heap.size X w')
  obtain ⟨va, cg, rfl, -⟩ := h1.any
  obtain ⟨vb, cc, rfl, -⟩ := h2.any
  obtain ⟨am, cm, rfl, -⟩ := h3.any
  have E0 : Has (w.alloc (.cells #[.slice va G.length cg, .slice vb C.length cc] 25)) w.heap.size #[.slice va G.length cg, .slice vb C.length cc] := Has.new _ _ _ rfl
  have HB0 : Below w.heap.size w (w.alloc (.cells #[.slice va G.length cg, .slice vb C.length cc] 25)) := belN1
  clear h1 h2 h3
  go_enter Try.func7, Try.ntmps7
  go_upto_region 1 with fail
  generalize (w.alloc (.cells #[.slice va G.length cg, .slice vb C.length cc] 25)) = W0 at *
  have z0 : w.heap.size + 1 ≤ W0.heap.size := E0.1
  obtain ⟨_, y0, _⟩ := id E0
  go_upto_region 2 with (go_at_call 9; (with_reducible refine Calls.mono (hRoom _ (by exact HB0)) ?_); rintro e w1 ⟨⟨g1, e1, g2, e2, g3, e3, g4, e4, g5, e5, g6, e6, rfl, R0⟩, hb1⟩; have zz1 := hb1.size; have HB1 := bel_after HB0 HB0.size hb1; replace E0 := E0.below hb1; clear hb1 y0)
  have hTb' : ∀ X : World, Calls Try.prog 10 #[.agg #[.slice (some ⟨g1, 0, none⟩) (G.length + 1) e1, .slice (some ⟨g2, 0, none⟩) (C.length + 1) e2, .slice (some ⟨g3, 0, none⟩) 1 e3, .slice (some ⟨g4, 0, none⟩) 1 e4, .slice (some ⟨g5, 0, none⟩) 1 e5, .slice (some ⟨g6, 0, none⟩) (Ms.length + 1) e6]] X fun e w' => e = .returned (.agg #[.slice (some ⟨g1, 0, none⟩) G.length e1, .slice (some ⟨g2, 0, none⟩) C.length e2]) ∧ Below X.heap.size X w' := fun X => tables_any g1 g2 g3 g4 g5 g6 G.length C.length 0 0 0 Ms.length e1 e2 e3 e4 e5 e6 X (own_cap R0.fg (by omega)) (by omega) (own_cap R0.fc (by omega)) (by omega)
  have ce6 := own_cap R0.fm (by omega)
  have RB : Has (w1.alloc (.cells #[.slice (some ⟨g1, 0, none⟩) (G.length + 1) e1, .slice (some ⟨g2, 0, none⟩) (C.length + 1) e2, .slice (some ⟨g3, 0, none⟩) 1 e3, .slice (some ⟨g4, 0, none⟩) 1 e4, .slice (some ⟨g5, 0, none⟩) 1 e5, .slice (some ⟨g6, 0, none⟩) (Ms.length + 1) e6] 33)) w1.heap.size #[.slice (some ⟨g1, 0, none⟩) (G.length + 1) e1, .slice (some ⟨g2, 0, none⟩) (C.length + 1) e2, .slice (some ⟨g3, 0, none⟩) 1 e3, .slice (some ⟨g4, 0, none⟩) 1 e4, .slice (some ⟨g5, 0, none⟩) 1 e5, .slice (some ⟨g6, 0, none⟩) (Ms.length + 1) e6] := Has.new _ _ _ rfl
  have hbA : Below w1.heap.size w1 (w1.alloc (.cells #[.slice (some ⟨g1, 0, none⟩) (G.length + 1) e1, .slice (some ⟨g2, 0, none⟩) (C.length + 1) e2, .slice (some ⟨g3, 0, none⟩) 1 e3, .slice (some ⟨g4, 0, none⟩) 1 e4, .slice (some ⟨g5, 0, none⟩) 1 e5, .slice (some ⟨g6, 0, none⟩) (Ms.length + 1) e6] 33)) := belN1
  replace R0 := R0.below hbA
  replace E0 := E0.below hbA
  replace HB1 := bel_after HB1 HB1.size hbA
  clear hbA
  have zr : w1.heap.size < ((w1.alloc (.cells #[.slice (some ⟨g1, 0, none⟩) (G.length + 1) e1, .slice (some ⟨g2, 0, none⟩) (C.length + 1) e2, .slice (some ⟨g3, 0, none⟩) 1 e3, .slice (some ⟨g4, 0, none⟩) 1 e4, .slice (some ⟨g5, 0, none⟩) 1 e5, .slice (some ⟨g6, 0, none⟩) (Ms.length + 1) e6] 33))).heap.size := RB.1
  generalize (w1.alloc (.cells #[.slice (some ⟨g1, 0, none⟩) (G.length + 1) e1, .slice (some ⟨g2, 0, none⟩) (C.length + 1) e2, .slice (some ⟨g3, 0, none⟩) 1 e3, .slice (some ⟨g4, 0, none⟩) 1 e4, .slice (some ⟨g5, 0, none⟩) 1 e5, .slice (some ⟨g6, 0, none⟩) (Ms.length + 1) e6] 33)) = W2 at *
  generalize w1.heap.size = Rb at *
  obtain ⟨_, y0, _⟩ := id E0
  go_upto_region 3 with (go_at_call 33; (with_reducible refine Calls.mono (k33 _ (by exact HB1)) ?_); rintro e w3 ⟨⟨aw, cw, rfl, ow⟩, hb3⟩; have HB2 := bel_after HB1 HB1.size hb3; replace E0 := E0.below hb3; replace RB := RB.below hb3; replace R0 := R0.below hb3; clear hb3 y0)
  have ce7 : Ms.length ≤ e6 := by omega
  clear k33 HB1
  refine wp_region_noPanic ?_
  refine wp_region_held_drew (S := fun w' => w'.cell? ⟨Rb, 0, none⟩ = some (.slice (some ⟨g1, 0, none⟩) (G.length + 1) e1) ∧ w'.cell? ⟨Rb, 1, none⟩ = some (.slice (some ⟨g2, 0, none⟩) (C.length + 1) e2) ∧ w'.cell? ⟨Rb, 2, none⟩ = some (.slice (some ⟨g3, 0, none⟩) 1 e3) ∧ w'.cell? ⟨Rb, 3, none⟩ = some (.slice (some ⟨g4, 0, none⟩) 1 e4) ∧ w'.cell? ⟨Rb, 4, none⟩ = some (.slice (some ⟨g5, 0, none⟩) 1 e5) ∧ w'.cell? ⟨Rb, 5, none⟩ = some (.slice (some ⟨g6, 0, none⟩) (Ms.length + 1) e6)) (by kernel_rfl) ?_ (fun hHeld => ?_)
  · (try dsimp only)
    exact has6 RB.drew
  refine wpAnyH_take (i := 0) (oi := { dst := some 22, op := Op.load 33 (Operand.tmp 5), type := 33, pos := "headslaw.go:163", after := #[], guard := none }) (v := ?_) rfl (by kernel_rfl) (by kernel_rfl) (by kernel_rfl) (fun _ _ _ h => h) (Or.inl ⟨by rfl, ?_⟩) (by assumption) ?_
  rotate_left
  · intro wz hSz; (try dsimp only at hSz); go_simp; all_goals (with_reducible rfl)
  (try simp only [Act.put, List.setIfInBounds_toArray, List.set_cons_zero, List.set_cons_succ])
  refine wpAnyH_take (i := 2) (oi := { dst := some 24, op := Op.fieldAddr 33 (Operand.tmp 5) 2, type := 0, pos := "headslaw.go:163", after := #[], guard := none }) (v := ?_) rfl (by kernel_rfl) (by kernel_rfl) (by kernel_rfl) (fun _ _ _ h => h) (Or.inl ⟨by rfl, ?_⟩) (by assumption) ?_
  rotate_left
  · intro wz hSz; (try dsimp only at hSz); go_simp; all_goals (with_reducible rfl)
  (try simp only [Act.put, List.setIfInBounds_toArray, List.set_cons_zero, List.set_cons_succ])
  refine wpAnyH_take (i := 3) (oi := { dst := some 25, op := Op.load 31 (Operand.tmp 24), type := 31, pos := "headslaw.go:163", after := #[{ on := 2, ground := Ground.data }], guard := none }) (v := ?_) rfl (by kernel_rfl) (by kernel_rfl) (by kernel_rfl) (fun _ _ _ h => h) (Or.inl ⟨by rfl, ?_⟩) (by assumption) ?_
  rotate_left
  · intro wz hSz; (try dsimp only at hSz); go_simp; all_goals (with_reducible rfl)
  (try simp only [Act.put, List.setIfInBounds_toArray, List.set_cons_zero, List.set_cons_succ])
  refine wpAnyH_take (i := 4) (oi := { dst := some 26, op := Op.move (Operand.tmp 1), type := 31, pos := "headslaw.go:163", after := #[], guard := none }) (v := ?_) rfl (by kernel_rfl) (by kernel_rfl) (by kernel_rfl) (fun _ _ _ h => h) (Or.inl ⟨by rfl, ?_⟩) (by assumption) ?_
  rotate_left
  · intro wz hSz; (try dsimp only at hSz); go_simp; all_goals (with_reducible rfl)
  (try simp only [Act.put, List.setIfInBounds_toArray, List.set_cons_zero, List.set_cons_succ])
  refine wpAnyH_take (i := 5) (oi := { dst := some 27, op := Op.call { callee := Callee.builtin Builtin.len, args := #[Operand.tmp 26], argTypes := #[31] }, type := 3, pos := "headslaw.go:163", after := #[{ on := 4, ground := Ground.data }], guard := none }) (v := ?_) rfl (by kernel_rfl) (by kernel_rfl) (by kernel_rfl) (fun _ _ _ h => h) (Or.inl ⟨by rfl, ?_⟩) (by assumption) ?_
  rotate_left
  · intro wz hSz; (try dsimp only at hSz); go_simp; all_goals (with_reducible rfl)
  (try simp only [Act.put, List.setIfInBounds_toArray, List.set_cons_zero, List.set_cons_succ])
  refine wpAnyH_take (i := 6) (oi := { dst := some 28, op := Op.slice 31 (Operand.tmp 25) none (some (Operand.tmp 27)) none, type := 31, pos := "headslaw.go:163", after := #[{ on := 3, ground := Ground.data }, { on := 5, ground := Ground.data }], guard := none }) (v := ?_) rfl (by kernel_rfl) (by kernel_rfl) (by kernel_rfl) (fun _ _ _ h => h) (Or.inl ⟨by rfl, ?_⟩) (by assumption) ?_
  rotate_left
  · intro wz hSz; (try dsimp only at hSz); go_simp; all_goals (with_reducible rfl)
  (try simp only [Act.put, List.setIfInBounds_toArray, List.set_cons_zero, List.set_cons_succ])
  refine wpAnyH_ready (rs := [1]) (by kernel_rfl) (by simp) ?_
  refine AllReadyH.cons (o := { dst := some 23, op := Op.call { callee := Callee.value (Operand.func 10), args := #[Operand.tmp 22], argTypes := #[33] }, type := 25, pos := "headslaw.go:163", after := #[{ on := 0, ground := Ground.data }], guard := none }) rfl (fun K hK => ?_) AllReadyH.nil
  go_simp
  (go_at_call 10; (with_reducible refine Calls.mono (hTb' _) ?_); rintro e y1 ⟨rfl, hy1⟩; have RB1 := RB.drew.below hy1; have E1 := E0.drew.below hy1; have HB3 := bel_after HB2.drew HB2.drew.size hy1; have RY := R0.below (bel_after (Below.refl _ _).drew (Nat.le_refl _) hy1); have ow1 := own_bel ow.drew hy1; clear hy1)
  go_wp2_with fail
  refine hK.out _ _ ?_ (fun hHeld => ?_)
  · (try dsimp only)
    exact has6 RB1
  clear hK K
  (try simp only [Act.put, List.setIfInBounds_toArray, List.set_cons_zero, List.set_cons_succ])
  refine wpAnyH_ready (rs := [7]) (by kernel_rfl) (by simp) ?_
  refine AllReadyH.cons (o := { dst := some 29, op := Op.call { callee := Callee.value (Operand.func 21), args := #[Operand.tmp 23, Operand.tmp 28], argTypes := #[25, 31] }, type := 43, pos := "headslaw.go:163", after := #[{ on := 1, ground := Ground.data }, { on := 6, ground := Ground.data }, { on := 1, ground := Ground.chain }], guard := none }) rfl (fun K hK => ?_) AllReadyH.nil
  go_simp
  (go_at_call 21; (with_reducible refine Calls.mono (s21 y1 _ _ _ (fl_cut gp_len RY.fg) (fl_cut cf_len RY.fc) (fl_cut u64_len RY.fm)) ?_); rintro e y2 ⟨⟨al, cl, rfl, ol⟩, hy2⟩; have RB2 := RB1.below hy2; have E2 := E1.below hy2; have HB4 := bel_after HB3 HB3.size hy2; have RZ := RY.below hy2; have ow2 := own_bel ow1 hy2; have zl := HB3.size; clear hy2)
  go_wp2_with fail
  refine hK.out _ _ ?_ (fun hHeld => ?_)
  · (try dsimp only)
    exact has6 RB2
  clear hK K
  (try simp only [Act.put, List.setIfInBounds_toArray, List.set_cons_zero, List.set_cons_succ])
  refine wpAnyH_take (i := 8) (oi := { dst := some 21, op := Op.move (Operand.tmp 29), type := 43, pos := "headslaw.go:163", after := #[{ on := 7, ground := Ground.data }], guard := none }) (v := ?_) rfl (by kernel_rfl) (by kernel_rfl) (by kernel_rfl) (fun _ _ _ h => h) (Or.inl ⟨by rfl, ?_⟩) (by assumption) ?_
  rotate_left
  · intro wz hSz; (try dsimp only at hSz); go_simp; all_goals (with_reducible rfl)
  (try simp only [Act.put, List.setIfInBounds_toArray, List.set_cons_zero, List.set_cons_succ])
  refine wpAnyH_take (i := 9) (oi := { dst := some 30, op := Op.extract (Operand.tmp 21) 0, type := 41, pos := "headslaw.go:163", after := #[{ on := 8, ground := Ground.data }], guard := none }) (v := ?_) rfl (by kernel_rfl) (by kernel_rfl) (by kernel_rfl) (fun _ _ _ h => h) (Or.inl ⟨by rfl, ?_⟩) (by assumption) ?_
  rotate_left
  · intro wz hSz; (try dsimp only at hSz); go_simp; all_goals (with_reducible rfl)
  (try simp only [Act.put, List.setIfInBounds_toArray, List.set_cons_zero, List.set_cons_succ])
  refine wpAnyH_take (i := 10) (oi := { dst := some 31, op := Op.extract (Operand.tmp 21) 1, type := 42, pos := "headslaw.go:163", after := #[{ on := 8, ground := Ground.data }, { on := 11, ground := Ground.gcOnly Departure.lateStores }], guard := none }) (v := ?_) rfl (by kernel_rfl) (by kernel_rfl) (by kernel_rfl) (fun _ _ _ h => h) (Or.inl ⟨by rfl, ?_⟩) (by assumption) ?_
  rotate_left
  · intro wz hSz; (try dsimp only at hSz); go_simp; all_goals (with_reducible rfl)
  (try simp only [Act.put, List.setIfInBounds_toArray, List.set_cons_zero, List.set_cons_succ])
  refine wpAnyH_take (i := 11) (oi := { dst := some 8, op := Op.assign (Operand.tmp 30), type := 41, pos := "headslaw.go:163", after := #[{ on := 9, ground := Ground.data }, { on := 7, ground := Ground.chain }, { on := 0, ground := Ground.phase }, { on := 1, ground := Ground.phase }, { on := 2, ground := Ground.phase }, { on := 3, ground := Ground.phase }, { on := 4, ground := Ground.phase }, { on := 5, ground := Ground.phase }, { on := 6, ground := Ground.phase }, { on := 7, ground := Ground.phase }, { on := 8, ground := Ground.phase }, { on := 9, ground := Ground.phase }, { on := 10, ground := Ground.textOnly Departure.lateStores }], guard := none }) (v := ?_) rfl (by kernel_rfl) (by kernel_rfl) (by kernel_rfl) (fun _ _ _ h => h) (Or.inl ⟨by rfl, ?_⟩) (by assumption) ?_
  rotate_left
  · intro wz hSz; (try dsimp only at hSz); go_simp; all_goals (with_reducible rfl)
  (try simp only [Act.put, List.setIfInBounds_toArray, List.set_cons_zero, List.set_cons_succ])
  refine wpAnyH_take (i := 12) (oi := { dst := some 9, op := Op.assign (Operand.tmp 31), type := 42, pos := "headslaw.go:163", after := #[{ on := 10, ground := Ground.data }, { on := 11, ground := Ground.chain }, { on := 0, ground := Ground.phase }, { on := 1, ground := Ground.phase }, { on := 2, ground := Ground.phase }, { on := 3, ground := Ground.phase }, { on := 4, ground := Ground.phase }, { on := 5, ground := Ground.phase }, { on := 6, ground := Ground.phase }, { on := 7, ground := Ground.phase }, { on := 8, ground := Ground.phase }, { on := 9, ground := Ground.phase }, { on := 10, ground := Ground.phase }, { on := 11, ground := Ground.phase }], guard := none }) (v := ?_) rfl (by kernel_rfl) (by kernel_rfl) (by kernel_rfl) (fun _ _ _ h => h) (Or.inl ⟨by rfl, ?_⟩) (by assumption) ?_
  rotate_left
  · intro wz hSz; (try dsimp only at hSz); go_simp; all_goals (with_reducible rfl)
  (try simp only [Act.put, List.setIfInBounds_toArray, List.set_cons_zero, List.set_cons_succ])
  refine wpAnyH_done (by kernel_rfl) ?_ _
  refine NoPanic.normal ?_
  have K0 := k20 y2 HB4 g1 e1 g2 e2 g3 e3 g4 e4 g5 e5 g6 e6 (RZ.base (Nat.zero_le _))
  clear R0 RY RB RB1 E0 E1 ow ow1 hRoom k20 hTb' s21 HB2 HB3
  obtain ⟨_, x1, _⟩ := id RB2
  obtain ⟨_, x2, _⟩ := id E2
  go_upto_region 6 with (go_at_call 20; (with_reducible refine Calls.mono K0 ?_); rintro e y3 ⟨rfl, hy3⟩; have HB5 := bel_after HB4 HB4.size hy3; have o1 := own_bel ow2 hy3; have o2 := own_bel ol hy3; clear hy3)
  clear x1 x2 RB2 E2 RZ K0 ow2 ol HB4
  go_wp2_with fail
  go_loopw [10] (fun t wr => ∃ k : Nat, k ≤ n ∧ t = .int .i64 (k : Int) ∧ Hid (wr.ownsRow 0 9 1 (.slice aw n cw) n xs) ∧ Hid (wr.ownsRow 0 9 1 (.slice al n cl) n xs) ∧ Hid (Below w.heap.size w wr)) (fun t _ => n - (intOf t).toNat)
  case atStart => exact ⟨0, by omega, rfl, own_base o1 (Nat.zero_le _), own_base o2 (Nat.zero_le _), HB5⟩
  case round =>
    clear o1 o2 HB5
    obtain ⟨k, hkn, rfl, o1', o2', hb'⟩ := hrel
    have o1 := o1'.out
    have o2 := o2'.out
    have hb := hb'.out
    clear o1' o2' hb'
    by_cases hlt : k < n
    · obtain ⟨ga, ca, ea, -, -⟩ := o1.form (by omega)
      obtain ⟨gb, cb, eb, -, -⟩ := o2.form (by omega)
      obtain ⟨rfl, -, rfl⟩ : aw = some ⟨ga, 0, none⟩ ∧ True ∧ cw = ca := by injection ea with e1 _ e2; exact ⟨e1, trivial, e2⟩
      obtain ⟨rfl, -, rfl⟩ : al = some ⟨gb, 0, none⟩ ∧ True ∧ cl = cb := by injection eb with e1 _ e2; exact ⟨e1, trivial, e2⟩
      obtain ⟨s, hs⟩ := hstr k hlt
      have q1 := (o1.cellAt k (show k < n * 1 by omega)).trans hs
      have q2 := (o2.cellAt k (show k < n * 1 by omega)).trans hs
      have t1 : (k : Int) < (n : Int) := by omega
      have t0 : (0 : Int) ≤ (k : Int) := by omega
      clear hs
      go_upto_region 9 with fail
      refine wp_region_noPanic ?_
      refine wp_region_held_drew (S := fun w' => w'.cell? ⟨ga, k, none⟩ = some (.string s) ∧ w'.cell? ⟨gb, k, none⟩ = some (.string s)) (by kernel_rfl) ?_ (fun hHeld => ?_)
      · (try dsimp only)
        exact ⟨q1, q2⟩
      refine wpAnyH_take (i := 0) (oi := { dst := some 56, op := Op.move (Operand.tmp 8), type := 41, pos := "headslaw.go:168", after := #[], guard := none }) (v := ?_) rfl (by kernel_rfl) (by kernel_rfl) (by kernel_rfl) (fun _ _ _ h => h) (Or.inl ⟨by rfl, ?_⟩) (by assumption) ?_
      rotate_left
      · intro wz hSz; (try dsimp only at hSz); go_simp; all_goals (with_reducible rfl)
      (try simp only [Act.put, List.setIfInBounds_toArray, List.set_cons_zero, List.set_cons_succ])
      refine wpAnyH_take (i := 1) (oi := { dst := some 57, op := Op.move (Operand.tmp 10), type := 3, pos := "headslaw.go:168", after := #[], guard := none }) (v := ?_) rfl (by kernel_rfl) (by kernel_rfl) (by kernel_rfl) (fun _ _ _ h => h) (Or.inl ⟨by rfl, ?_⟩) (by assumption) ?_
      rotate_left
      · intro wz hSz; (try dsimp only at hSz); go_simp; all_goals (with_reducible rfl)
      (try simp only [Act.put, List.setIfInBounds_toArray, List.set_cons_zero, List.set_cons_succ])
      refine wpAnyH_take (i := 2) (oi := { dst := some 58, op := Op.indexAddr 41 (Operand.tmp 56) (Operand.tmp 57), type := 0, pos := "headslaw.go:168", after := #[{ on := 0, ground := Ground.data }, { on := 1, ground := Ground.data }], guard := none }) (v := ?_) rfl (by kernel_rfl) (by kernel_rfl) (by kernel_rfl) (fun _ _ _ h => h) (Or.inl ⟨by rfl, ?_⟩) (by assumption) ?_
      rotate_left
      · intro wz hSz; (try dsimp only at hSz); go_simp; all_goals (with_reducible rfl)
      (try simp only [Act.put, List.setIfInBounds_toArray, List.set_cons_zero, List.set_cons_succ])
      refine wpAnyH_take (i := 3) (oi := { dst := some 59, op := Op.load 9 (Operand.tmp 58), type := 9, pos := "headslaw.go:168", after := #[{ on := 2, ground := Ground.data }], guard := none }) (v := ?_) rfl (by kernel_rfl) (by kernel_rfl) (by kernel_rfl) (fun _ _ _ h => h) (Or.inl ⟨by rfl, ?_⟩) (by assumption) ?_
      rotate_left
      · intro wz hSz; (try dsimp only at hSz); go_simp; all_goals (with_reducible rfl)
      (try simp only [Act.put, List.setIfInBounds_toArray, List.set_cons_zero, List.set_cons_succ])
      refine wpAnyH_take (i := 4) (oi := { dst := some 60, op := Op.move (Operand.tmp 6), type := 41, pos := "headslaw.go:168", after := #[], guard := none }) (v := ?_) rfl (by kernel_rfl) (by kernel_rfl) (by kernel_rfl) (fun _ _ _ h => h) (Or.inl ⟨by rfl, ?_⟩) (by assumption) ?_
      rotate_left
      · intro wz hSz; (try dsimp only at hSz); go_simp; all_goals (with_reducible rfl)
      (try simp only [Act.put, List.setIfInBounds_toArray, List.set_cons_zero, List.set_cons_succ])
      refine wpAnyH_take (i := 5) (oi := { dst := some 61, op := Op.move (Operand.tmp 10), type := 3, pos := "headslaw.go:168", after := #[], guard := none }) (v := ?_) rfl (by kernel_rfl) (by kernel_rfl) (by kernel_rfl) (fun _ _ _ h => h) (Or.inl ⟨by rfl, ?_⟩) (by assumption) ?_
      rotate_left
      · intro wz hSz; (try dsimp only at hSz); go_simp; all_goals (with_reducible rfl)
      (try simp only [Act.put, List.setIfInBounds_toArray, List.set_cons_zero, List.set_cons_succ])
      refine wpAnyH_take (i := 6) (oi := { dst := some 62, op := Op.indexAddr 41 (Operand.tmp 60) (Operand.tmp 61), type := 0, pos := "headslaw.go:168", after := #[{ on := 4, ground := Ground.data }, { on := 5, ground := Ground.data }], guard := none }) (v := ?_) rfl (by kernel_rfl) (by kernel_rfl) (by kernel_rfl) (fun _ _ _ h => h) (Or.inl ⟨by rfl, ?_⟩) (by assumption) ?_
      rotate_left
      · intro wz hSz; (try dsimp only at hSz); go_simp; all_goals (with_reducible rfl)
      (try simp only [Act.put, List.setIfInBounds_toArray, List.set_cons_zero, List.set_cons_succ])
      refine wpAnyH_take (i := 7) (oi := { dst := some 63, op := Op.load 9 (Operand.tmp 62), type := 9, pos := "headslaw.go:168", after := #[{ on := 6, ground := Ground.data }], guard := none }) (v := ?_) rfl (by kernel_rfl) (by kernel_rfl) (by kernel_rfl) (fun _ _ _ h => h) (Or.inl ⟨by rfl, ?_⟩) (by assumption) ?_
      rotate_left
      · intro wz hSz; (try dsimp only at hSz); go_simp; all_goals (with_reducible rfl)
      (try simp only [Act.put, List.setIfInBounds_toArray, List.set_cons_zero, List.set_cons_succ])
      refine wpAnyH_take (i := 8) (oi := { dst := some 64, op := Op.binOp BinOp.neq 9 (Operand.tmp 59) (Operand.tmp 63) 9, type := 4, pos := "headslaw.go:168", after := #[{ on := 3, ground := Ground.data }, { on := 7, ground := Ground.data }], guard := none }) (v := ?_) rfl (by kernel_rfl) (by kernel_rfl) (by kernel_rfl) (fun _ _ _ h => h) (Or.inl ⟨by rfl, ?_⟩) (by assumption) ?_
      rotate_left
      · intro wz hSz; (try dsimp only at hSz); go_simp; all_goals (with_reducible rfl)
      (try simp only [Act.put, List.setIfInBounds_toArray, List.set_cons_zero, List.set_cons_succ])
      refine wpAnyH_done (by kernel_rfl) ?_ _
      refine NoPanic.normal ?_
      go_wp2_with fail
      go_roundw
      case rel => exact ⟨k + 1, by omega, by go_num, o1.drew, o2.drew, hb.drew⟩
      case measure => simp [intOf]; omega
    · have t1 : ¬ (k : Int) < (n : Int) := by omega
      go_wp2_with fail
      go_ret
      exact ⟨rfl, hb⟩
end Go.Proofs.Ytbonmajnkbggcab
