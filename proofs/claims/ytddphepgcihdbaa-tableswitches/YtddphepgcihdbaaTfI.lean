import Derived.Test.YtddphepgcihdbaaTfH
namespace Go.Proofs.Ytddphepgcihdbaa
open Go.RowKit
set_option linter.unusedVariables false
set_option linter.unusedSimpArgs false

theorem Md.put {w : World} {mb p : Nat} {L : List Int} {a : Option Addr} {c : Nat} {T : Tv} {Z : Nat} (h : Md w mb p L a c T Z) (i : Nat) (v : Value) (T' : Tv) (hi : i < 15) (hT : ∀ s b, (T.cs s b p).setIfInBounds i v = T'.cs s b p) : Md (w.setCell ⟨mb, i, none⟩ v) mb p L a c T' Z := by
  obtain ⟨s, b, h1, h2, h3⟩ := h.has
  obtain ⟨k, hk⟩ := h.pk
  refine ⟨⟨s, b, ?_, h2, h3⟩, ⟨k, hk.set h.lt (Nat.le_refl _) h.ga v⟩, h.lt, h.ga⟩
  rw [← hT]
  exact h1.set i (by simpa [Tv.cs] using hi) v
theorem Md.cells {w : World} {mb p : Nat} {L : List Int} {a : Option Addr} {c : Nat} {T : Tv} {Z : Nat} (h : Md w mb p L a c T Z) : ∃ s b, s.size ≤ Z ∧ b.size ≤ Z ∧ (∀ i, w.cell? ⟨mb, i, none⟩ = (#[T.nm, T.d, T.w0, T.w1, T.w2, T.w3, T.w4, T.w5, T.w6, T.s, T.x, T.h, .string s, .pointer (some ⟨p, 0, none⟩), .string b] : Array Value)[i]?) ∧ ∀ i, w.frozen? ⟨mb, i, none⟩ = false := by
  obtain ⟨s, b, h1, h2, h3⟩ := h.has
  exact ⟨s, b, h2, h3, h1.2.1, h1.2.2⟩
theorem results_cell_tmp2 {fn : Func} {p u v : Tmp} {ty : TypeId} (h : fn.results = #[.cell p ty, .tmp u, .tmp v]) (tmps : Array Value) (P : Program) (w : World) :
    (results fn tmps).run P w =
      ((asAddr (tmps.getD p undef)).run P w).andThen fun a w₁ => ((loadVar ty a).run P w₁).andThen fun x w₂ => .ok (.tuple #[x, tmps.getD u undef, tmps.getD v undef]) w₂ := by
  simp only [results, h]
  simp [Sem.run_bind, Result.andThen]
/-- A list of choices that is handed in. -/
def ChP (w : World) (L : List Int) (a : Option Addr) : Prop := L.length ≤ 17592186044416 ∧ (∀ i (h : i < L.length), -9223372036854775808 ≤ L[i] ∧ L[i] ≤ 9223372036854775807) ∧ (L = [] ∨ ∃ g o, a = some ⟨g, o, none⟩ ∧ g < w.heap.size ∧ ∀ i (h : i < L.length), w.cell? ⟨g, o + i, none⟩ = some (.int .i64 L[i]))
theorem days_m {w : World} {mb p : Nat} {L : List Int} {a : Option Addr} {c : Nat} {T : Tv} {Z : Nat} (h : Md w mb p L a c T Z) (hTd : T.d = .slice none 0 0) (hZ : Z ≤ 100000) (n : Nat) (hn8 : n ≤ 8) (m : Int) (hm : m = (n : Int)) :
    Calls Try.prog 11 #[.pointer (some ⟨mb, 0, none⟩), .int .i64 m] w fun e w' => e = .returned (.tuple #[]) ∧ (∃ (da : Option Addr) (dcp : Nat) (D : List Dk), D.length = n ∧ Dn w' w.heap.size (.slice da n dcp) D ∧ Md w' mb p L a c { T with d := .slice da n dcp } (Z + 32000)) ∧ Only (MP mb p) w w' := by
  subst hm; exact days_made h hTd hZ n hn8
theorem week_m {w : World} {mb p : Nat} {L : List Int} {a : Option Addr} {c : Nat} {T : Tv} {Z : Nat} (h : Md w mb p L a c T Z) (n : Nat) (hn0 : 1 ≤ n) (hn8 : n ≤ 8) (m : Int) (hm : m = (n : Int)) :
    Calls Try.prog 12 #[.pointer (some ⟨mb, 0, none⟩), .int .i64 m] w fun e w' => WkP n e ∧ Md w' mb p L a c T Z ∧ Only (fun q => q = p) w w' := by
  subst hm; exact week_made h n hn0 hn8
theorem Md.wk {w : World} {mb p : Nat} {L : List Int} {a : Option Addr} {c : Nat} {T : Tv} {Z : Nat} (h : Md w mb p L a c T Z) (x0 x1 x2 x3 x4 x5 x6 : Value) :
    Md (((((((w.setCell ⟨mb, 2, none⟩ x0).setCell ⟨mb, 3, none⟩ x1).setCell ⟨mb, 4, none⟩ x2).setCell ⟨mb, 5, none⟩ x3).setCell ⟨mb, 6, none⟩ x4).setCell ⟨mb, 7, none⟩ x5).setCell ⟨mb, 8, none⟩ x6) mb p L a c { T with w0 := x0, w1 := x1, w2 := x2, w3 := x3, w4 := x4, w5 := x5, w6 := x6 } Z := by
  have s2 := h.put 2 x0 { T with w0 := x0 } (by decide) (fun _ _ => by simp [Tv.cs])
  have s3 := s2.put 3 x1 { T with w0 := x0, w1 := x1 } (by decide) (fun _ _ => by simp [Tv.cs])
  have s4 := s3.put 4 x2 { T with w0 := x0, w1 := x1, w2 := x2 } (by decide) (fun _ _ => by simp [Tv.cs])
  have s5 := s4.put 5 x3 { T with w0 := x0, w1 := x1, w2 := x2, w3 := x3 } (by decide) (fun _ _ => by simp [Tv.cs])
  have s6 := s5.put 6 x4 { T with w0 := x0, w1 := x1, w2 := x2, w3 := x3, w4 := x4 } (by decide) (fun _ _ => by simp [Tv.cs])
  have s7 := s6.put 7 x5 { T with w0 := x0, w1 := x1, w2 := x2, w3 := x3, w4 := x4, w5 := x5 } (by decide) (fun _ _ => by simp [Tv.cs])
  exact s7.put 8 x6 _ (by decide) (fun _ _ => by simp [Tv.cs])
theorem Only.wk {S : Nat → Prop} {a w : World} (h : Only S a w) {q : Nat} (hq : S q) (x0 x1 x2 x3 x4 x5 x6 : Value) : Only S a (((((((w.setCell ⟨q, 2, none⟩ x0).setCell ⟨q, 3, none⟩ x1).setCell ⟨q, 4, none⟩ x2).setCell ⟨q, 5, none⟩ x3).setCell ⟨q, 6, none⟩ x4).setCell ⟨q, 7, none⟩ x5).setCell ⟨q, 8, none⟩ x6) :=
  ((((((h.set hq x0).set hq x1).set hq x2).set hq x3).set hq x4).set hq x5).set hq x6
theorem Has.wk {w : World} {b q : Nat} {vs : Array Value} (h : Has w b vs) (hn : b ≠ q) (x0 x1 x2 x3 x4 x5 x6 : Value) : Has (((((((w.setCell ⟨q, 2, none⟩ x0).setCell ⟨q, 3, none⟩ x1).setCell ⟨q, 4, none⟩ x2).setCell ⟨q, 5, none⟩ x3).setCell ⟨q, 6, none⟩ x4).setCell ⟨q, 7, none⟩ x5).setCell ⟨q, 8, none⟩ x6) b vs :=
  ((((((h.far hn x0).far hn x1).far hn x2).far hn x3).far hn x4).far hn x5).far hn x6
theorem Has.sev {w : World} {b : Nat} {y0 y1 y2 y3 y4 y5 y6 : Value} (h : Has w b #[y0, y1, y2, y3, y4, y5, y6]) (x0 x1 x2 x3 x4 x5 x6 : Value) : Has (set7 w b x0 x1 x2 x3 x4 x5 x6) b #[x0, x1, x2, x3, x4, x5, x6] := by
  have s0 := h.set 0 (by simp) x0
  simp only [List.setIfInBounds_toArray, List.set_cons_zero, List.set_cons_succ] at s0
  have s1 := s0.set 1 (by simp) x1
  simp only [List.setIfInBounds_toArray, List.set_cons_zero, List.set_cons_succ] at s1
  have s2 := s1.set 2 (by simp) x2
  simp only [List.setIfInBounds_toArray, List.set_cons_zero, List.set_cons_succ] at s2
  have s3 := s2.set 3 (by simp) x3
  simp only [List.setIfInBounds_toArray, List.set_cons_zero, List.set_cons_succ] at s3
  have s4 := s3.set 4 (by simp) x4
  simp only [List.setIfInBounds_toArray, List.set_cons_zero, List.set_cons_succ] at s4
  have s5 := s4.set 5 (by simp) x5
  simp only [List.setIfInBounds_toArray, List.set_cons_zero, List.set_cons_succ] at s5
  have s6 := s5.set 6 (by simp) x6
  simp only [List.setIfInBounds_toArray, List.set_cons_zero, List.set_cons_succ] at s6
  exact s6
theorem only7 (w : World) (q : Nat) (x0 x1 x2 x3 x4 x5 x6 : Value) : Only (fun k => k = q) w (set7 w q x0 x1 x2 x3 x4 x5 x6) :=
  (((((((Only.refl (fun k => k = q) w).set rfl x0).set rfl x1).set rfl x2).set rfl x3).set rfl x4).set rfl x5).set rfl x6
def set12f (w : World) (q : Nat) (y0 y1 y2 y3 y4 y5 y6 y7 y8 y9 y10 y11 : Value) : World := ((((((((((((w.setCell ⟨q, 0, none⟩ y0).setCell ⟨q, 1, none⟩ y1).setCell ⟨q, 2, none⟩ y2).setCell ⟨q, 3, none⟩ y3).setCell ⟨q, 4, none⟩ y4).setCell ⟨q, 5, none⟩ y5).setCell ⟨q, 6, none⟩ y6).setCell ⟨q, 7, none⟩ y7).setCell ⟨q, 8, none⟩ y8).setCell ⟨q, 9, none⟩ y9).setCell ⟨q, 10, none⟩ y10).setCell ⟨q, 11, none⟩ y11)
theorem Has.far12 {w : World} {b q : Nat} {vs : Array Value} (h : Has w b vs) (hn : b ≠ q) (y0 y1 y2 y3 y4 y5 y6 y7 y8 y9 y10 y11 : Value) : Has (set12f w q y0 y1 y2 y3 y4 y5 y6 y7 y8 y9 y10 y11) b vs := ((((((((((((h.far hn y0).far hn y1).far hn y2).far hn y3).far hn y4).far hn y5).far hn y6).far hn y7).far hn y8).far hn y9).far hn y10).far hn y11)
theorem bel12f {B q : Nat} {a w : World} (h : Below B a w) (hq : B ≤ q) (y0 y1 y2 y3 y4 y5 y6 y7 y8 y9 y10 y11 : Value) : Below B a (set12f w q y0 y1 y2 y3 y4 y5 y6 y7 y8 y9 y10 y11) := ((((((((((((h.setCell hq y0).setCell hq y1).setCell hq y2).setCell hq y3).setCell hq y4).setCell hq y5).setCell hq y6).setCell hq y7).setCell hq y8).setCell hq y9).setCell hq y10).setCell hq y11)
theorem only12f (w : World) (q : Nat) (y0 y1 y2 y3 y4 y5 y6 y7 y8 y9 y10 y11 : Value) : Only (fun k => k = q) w (set12f w q y0 y1 y2 y3 y4 y5 y6 y7 y8 y9 y10 y11) := (((((((((((((Only.refl (fun k => k = q) w).set rfl y0).set rfl y1).set rfl y2).set rfl y3).set rfl y4).set rfl y5).set rfl y6).set rfl y7).set rfl y8).set rfl y9).set rfl y10).set rfl y11)
theorem Has.dz {w : World} {q : Nat} {z0 z1 z2 z3 z4 z5 z6 z7 z8 z9 z10 z11 : Value} (h : Has w q #[z0, z1, z2, z3, z4, z5, z6, z7, z8, z9, z10, z11]) (y0 y1 y2 y3 y4 y5 y6 y7 y8 y9 y10 y11 : Value) : Has (set12f w q y0 y1 y2 y3 y4 y5 y6 y7 y8 y9 y10 y11) q #[y0, y1, y2, y3, y4, y5, y6, y7, y8, y9, y10, y11] := by
  have s0 := h.set 0 (by simp) y0
  simp only [List.setIfInBounds_toArray, List.set_cons_zero, List.set_cons_succ] at s0
  have s1 := s0.set 1 (by simp) y1
  simp only [List.setIfInBounds_toArray, List.set_cons_zero, List.set_cons_succ] at s1
  have s2 := s1.set 2 (by simp) y2
  simp only [List.setIfInBounds_toArray, List.set_cons_zero, List.set_cons_succ] at s2
  have s3 := s2.set 3 (by simp) y3
  simp only [List.setIfInBounds_toArray, List.set_cons_zero, List.set_cons_succ] at s3
  have s4 := s3.set 4 (by simp) y4
  simp only [List.setIfInBounds_toArray, List.set_cons_zero, List.set_cons_succ] at s4
  have s5 := s4.set 5 (by simp) y5
  simp only [List.setIfInBounds_toArray, List.set_cons_zero, List.set_cons_succ] at s5
  have s6 := s5.set 6 (by simp) y6
  simp only [List.setIfInBounds_toArray, List.set_cons_zero, List.set_cons_succ] at s6
  have s7 := s6.set 7 (by simp) y7
  simp only [List.setIfInBounds_toArray, List.set_cons_zero, List.set_cons_succ] at s7
  have s8 := s7.set 8 (by simp) y8
  simp only [List.setIfInBounds_toArray, List.set_cons_zero, List.set_cons_succ] at s8
  have s9 := s8.set 9 (by simp) y9
  simp only [List.setIfInBounds_toArray, List.set_cons_zero, List.set_cons_succ] at s9
  have s10 := s9.set 10 (by simp) y10
  simp only [List.setIfInBounds_toArray, List.set_cons_zero, List.set_cons_succ] at s10
  have s11 := s10.set 11 (by simp) y11
  simp only [List.setIfInBounds_toArray, List.set_cons_zero, List.set_cons_succ] at s11
  exact s11
theorem Dn.imono {w : World} {B B' : Nat} {vd : Value} {D : List Dk} (h : Dn w B vd D) (hB : B' ≤ B) : Dn w B' vd D := ⟨own_mono h.own hB, fun x hx => own_mono (h.rows x hx) hB, h.ap, h.nm, h.ok⟩
theorem Has.far12d {w : World} {b q : Nat} {vs : Array Value} (h : Has w b vs) (hn : b ≠ q) (y0 y1 y2 y3 y4 y5 y6 y7 y8 y9 y10 y11 : Value) : Has ((((((((((((w.setCell ⟨q, 0, none⟩ y0).setCell ⟨q, 1, none⟩ y1).setCell ⟨q, 2, none⟩ y2).setCell ⟨q, 3, none⟩ y3).setCell ⟨q, 4, none⟩ y4).setCell ⟨q, 5, none⟩ y5).setCell ⟨q, 6, none⟩ y6).setCell ⟨q, 7, none⟩ y7).setCell ⟨q, 8, none⟩ y8).setCell ⟨q, 9, none⟩ y9).setCell ⟨q, 10, none⟩ y10).setCell ⟨q, 11, none⟩ y11).drew b vs := (h.far12 hn y0 y1 y2 y3 y4 y5 y6 y7 y8 y9 y10 y11).drew
theorem bel12d {B q : Nat} {a w : World} (h : Below B a w) (hq : B ≤ q) (y0 y1 y2 y3 y4 y5 y6 y7 y8 y9 y10 y11 : Value) : Below B a ((((((((((((w.setCell ⟨q, 0, none⟩ y0).setCell ⟨q, 1, none⟩ y1).setCell ⟨q, 2, none⟩ y2).setCell ⟨q, 3, none⟩ y3).setCell ⟨q, 4, none⟩ y4).setCell ⟨q, 5, none⟩ y5).setCell ⟨q, 6, none⟩ y6).setCell ⟨q, 7, none⟩ y7).setCell ⟨q, 8, none⟩ y8).setCell ⟨q, 9, none⟩ y9).setCell ⟨q, 10, none⟩ y10).setCell ⟨q, 11, none⟩ y11).drew := (bel12f h hq y0 y1 y2 y3 y4 y5 y6 y7 y8 y9 y10 y11).drew
theorem Dn.d12 {w : World} {B q : Nat} {vd : Value} {D : List Dk} (h : Dn w B vd D) (hq : q < B) (y0 y1 y2 y3 y4 y5 y6 y7 y8 y9 y10 y11 : Value) : Dn ((((((((((((w.setCell ⟨q, 0, none⟩ y0).setCell ⟨q, 1, none⟩ y1).setCell ⟨q, 2, none⟩ y2).setCell ⟨q, 3, none⟩ y3).setCell ⟨q, 4, none⟩ y4).setCell ⟨q, 5, none⟩ y5).setCell ⟨q, 6, none⟩ y6).setCell ⟨q, 7, none⟩ y7).setCell ⟨q, 8, none⟩ y8).setCell ⟨q, 9, none⟩ y9).setCell ⟨q, 10, none⟩ y10).setCell ⟨q, 11, none⟩ y11).drew q vd D :=
  ((h.only (only12f w q y0 y1 y2 y3 y4 y5 y6 y7 y8 y9 y10 y11) (fun k hk => by show ¬ k = q; omega)).below ((Below.refl _ _).drew)).imono (Nat.le_of_lt hq)
theorem own12d {w : World} {B q e sz n : Nat} {v : Value} {xs : List Value} (h : w.ownsRow B e sz v n xs) (hq : q < B) (y0 y1 y2 y3 y4 y5 y6 y7 y8 y9 y10 y11 : Value) : World.ownsRow ((((((((((((w.setCell ⟨q, 0, none⟩ y0).setCell ⟨q, 1, none⟩ y1).setCell ⟨q, 2, none⟩ y2).setCell ⟨q, 3, none⟩ y3).setCell ⟨q, 4, none⟩ y4).setCell ⟨q, 5, none⟩ y5).setCell ⟨q, 6, none⟩ y6).setCell ⟨q, 7, none⟩ y7).setCell ⟨q, 8, none⟩ y8).setCell ⟨q, 9, none⟩ y9).setCell ⟨q, 10, none⟩ y10).setCell ⟨q, 11, none⟩ y11).drew B e sz v n xs :=
  own_only h ((only12f w q y0 y1 y2 y3 y4 y5 y6 y7 y8 y9 y10 y11).drew) (fun k hk => by show ¬ k = q; omega)
theorem Has.dzd {w : World} {q : Nat} {z0 z1 z2 z3 z4 z5 z6 z7 z8 z9 z10 z11 : Value} (h : Has w q #[z0, z1, z2, z3, z4, z5, z6, z7, z8, z9, z10, z11]) (y0 y1 y2 y3 y4 y5 y6 y7 y8 y9 y10 y11 : Value) : Has ((((((((((((w.setCell ⟨q, 0, none⟩ y0).setCell ⟨q, 1, none⟩ y1).setCell ⟨q, 2, none⟩ y2).setCell ⟨q, 3, none⟩ y3).setCell ⟨q, 4, none⟩ y4).setCell ⟨q, 5, none⟩ y5).setCell ⟨q, 6, none⟩ y6).setCell ⟨q, 7, none⟩ y7).setCell ⟨q, 8, none⟩ y8).setCell ⟨q, 9, none⟩ y9).setCell ⟨q, 10, none⟩ y10).setCell ⟨q, 11, none⟩ y11).drew q #[y0, y1, y2, y3, y4, y5, y6, y7, y8, y9, y10, y11] := (h.dz y0 y1 y2 y3 y4 y5 y6 y7 y8 y9 y10 y11).drew
/-- Seasons, exceptions, shifts that are sound. -/
def SnK (n : Nat) (S : List Sn) : Prop := ∀ x ∈ S, snB x = true ∧ x.wk.all (kdB n) = true
def ExK (n : Nat) (X : List Ex) : Prop := (X.map (·.day)).Nodup ∧ ∀ x ∈ X, dayB x.day = true ∧ kdB n x.kind = true
def ShK (la : Int) (Q : List Sh) : Prop := (∀ x ∈ Q, 0 ≤ x.m ∧ x.m ≤ la ∧ x.m ≤ 210379679 ∧ -720 ≤ x.plus ∧ x.plus ≤ 840) ∧ Q.Pairwise (fun x y => x.m < y.m)
theorem SnK.nil (n : Nat) : SnK n [] := fun x hx => by simp at hx
theorem ExK.nil (n : Nat) : ExK n [] := ⟨List.nodup_nil, fun x hx => by simp at hx⟩
theorem ShK.nil (la : Int) : ShK la [] := ⟨fun x hx => by simp at hx, List.Pairwise.nil⟩
theorem dayB_of {d : Int} (h0 : 0 ≤ d) (h1 : d ≤ 146096) : dayB d = true := by simp [dayB, inB, h0, h1]
theorem SnK.snoc {n : Nat} {S : List Sn} (h : SnK n S) {A B x0 x1 x2 x3 x4 x5 x6 : Int} (a0 : 0 ≤ A) (a1 : A ≤ 146096) (b0 : 0 ≤ B) (b1 : B ≤ 146096) (hle : A ≤ B) (hr : 0 ≤ x0 ∧ x0 < (n : Int) ∧ 0 ≤ x1 ∧ x1 < (n : Int) ∧ 0 ≤ x2 ∧ x2 < (n : Int) ∧ 0 ≤ x3 ∧ x3 < (n : Int) ∧ 0 ≤ x4 ∧ x4 < (n : Int) ∧ 0 ≤ x5 ∧ x5 < (n : Int) ∧ 0 ≤ x6 ∧ x6 < (n : Int)) : SnK n (S ++ [⟨A, B, x0, x1, x2, x3, x4, x5, x6⟩]) := by
  intro x hx
  rcases List.mem_append.1 hx with hx | hx
  · exact h x hx
  · rw [List.mem_singleton.1 hx]
    refine ⟨?_, ?_⟩
    · simp [snB, dayB_of a0 a1, dayB_of b0 b1, hle]
    · simp only [Sn.wk, List.all_cons, List.all_nil, kdB, Bool.and_true, Bool.and_eq_true, decide_eq_true_eq]
      omega
theorem ExK.snoc {n : Nat} {X : List Ex} (h : ExK n X) {d k : Int} (hd : ∀ x ∈ X, x.day ≠ d) (d0 : 0 ≤ d) (d1 : d ≤ 146096) (k0 : 0 ≤ k) (k1 : k < (n : Int)) : ExK n (X ++ [⟨d, k⟩]) := by
  refine ⟨?_, ?_⟩
  · rw [List.map_append, List.nodup_append]
    refine ⟨h.1, by simp, ?_⟩
    intro a ha b hb
    obtain ⟨x, hx, rfl⟩ := List.mem_map.1 ha
    simp only [List.map_cons, List.map_nil, List.mem_singleton] at hb
    rw [hb]
    exact hd x hx
  · intro x hx
    rcases List.mem_append.1 hx with hx | hx
    · exact h.2 x hx
    · rw [List.mem_singleton.1 hx]
      exact ⟨dayB_of d0 d1, by simp [kdB, k0, k1]⟩
theorem ShK.snoc {la : Int} {Q : List Sh} (h : ShK la Q) {m p : Int} (hm : la < m) (m0 : 0 ≤ m) (m1 : m ≤ 210379679) (p0 : -720 ≤ p) (p1 : p ≤ 840) : ShK m (Q ++ [⟨m, p⟩]) := by
  refine ⟨?_, ?_⟩
  · intro x hx
    rcases List.mem_append.1 hx with hx | hx
    · have := h.1 x hx; omega
    · rw [List.mem_singleton.1 hx]
      exact ⟨m0, Int.le_refl _, m1, p0, p1⟩
  · rw [List.pairwise_append]
    refine ⟨h.2, by simp, ?_⟩
    intro x hx y hy
    rw [List.mem_singleton.1 hy]
    have := h.1 x hx
    show x.m < m
    omega
theorem take_all {X : List Ex} {m : Nat} {d : Int} (hm : m < X.length) (h : ∀ x ∈ X.take m, x.day ≠ d) (h2 : X[m].day ≠ d) : ∀ x ∈ X.take (m + 1), x.day ≠ d := by
  intro x hx
  rw [List.take_succ_eq_append_getElem hm] at hx
  rcases List.mem_append.1 hx with hx | hx
  · exact h x hx
  · rw [List.mem_singleton.1 hx]; exact h2
/-- What Make answers. -/
def MkP (w : World) (e : Ending) (w' : World) : Prop := ∃ (da : Option Addr) (dcp n : Nat) (D : List Dk) (x0 x1 x2 x3 x4 x5 x6 : Int) (sa xa ha : Option Addr) (sn sc xn xc hn hc : Nat) (s b : ByteArray) (S : List Sn) (X : List Ex) (Q : List Sh), e = .returned (.tuple #[.agg #[.string ⟨#[116, 105, 109, 101, 116, 97, 98, 108, 101]⟩, .slice da n dcp, .int .i64 x0, .int .i64 x1, .int .i64 x2, .int .i64 x3, .int .i64 x4, .int .i64 x5, .int .i64 x6, .slice sa sn sc, .slice xa xn xc, .slice ha hn hc], .string s, .string b]) ∧ D.length = n ∧ 1 ≤ n ∧ n ≤ 8 ∧ (0 ≤ x0 ∧ x0 < (n : Int) ∧ 0 ≤ x1 ∧ x1 < (n : Int) ∧ 0 ≤ x2 ∧ x2 < (n : Int) ∧ 0 ≤ x3 ∧ x3 < (n : Int) ∧ 0 ≤ x4 ∧ x4 < (n : Int) ∧ 0 ≤ x5 ∧ x5 < (n : Int) ∧ 0 ≤ x6 ∧ x6 < (n : Int)) ∧ Dn w' w.heap.size (.slice da n dcp) D ∧ (S.length = sn ∧ X.length = xn ∧ Q.length = hn ∧ sn ≤ 3 ∧ xn ≤ 4 ∧ hn ≤ 3) ∧ (SnK n S ∧ ExK n X ∧ ∃ la, ShK la Q) ∧ (w'.ownsRow w.heap.size 56 9 (.slice sa sn sc) sn (cellsF Sn.cs S) ∧ w'.ownsRow w.heap.size 58 2 (.slice xa xn xc) xn (cellsF Ex.cs X) ∧ w'.ownsRow w.heap.size 61 2 (.slice ha hn hc) hn (cellsF Sh.cs Q)) ∧ Below w.heap.size w w'
theorem Only.bel {S : Nat → Prop} {w W W' : World} {B : Nat} (h : Below B w W) (ho : Only S W W') (hS : ∀ k, S k → B ≤ k) (hB : B ≤ w.heap.size) : Below B w W' :=
  h.trans ⟨ho.os, ho.tape, ho.output, ho.size, fun k hk => ho.block k (by have := h.size; omega) (fun e => by have := hS k e; omega)⟩
theorem Dn.mono {w : World} {B B' : Nat} {vd : Value} {D : List Dk} (h : Dn w B vd D) (hB : B' ≤ B) : Dn w B' vd D := ⟨own_mono h.own hB, fun x hx => own_mono (h.rows x hx) hB, h.ap, h.nm, h.ok⟩
theorem md_start (L : List Int) (a : Option Addr) (c : Nat) (w : World) (hL : ChP w L a) : Md (((w.alloc (.cells #[.string ⟨#[]⟩, .slice none 0 0, .int .i64 0, .int .i64 0, .int .i64 0, .int .i64 0, .int .i64 0, .int .i64 0, .int .i64 0, .slice none 0 0, .slice none 0 0, .slice none 0 0] 29)).alloc (.cells #[.slice a L.length c, .int .i64 0] 45)).alloc (.cells #[.string ⟨#[116, 105, 109, 101, 116, 97, 98, 108, 101]⟩, .slice none 0 0, .int .i64 0, .int .i64 0, .int .i64 0, .int .i64 0, .int .i64 0, .int .i64 0, .int .i64 0, .slice none 0 0, .slice none 0 0, .slice none 0 0, .string ⟨#[]⟩, .pointer (some ⟨w.heap.size + 1, 0, none⟩), .string ⟨#[]⟩] 47)) (w.heap.size + 1 + 1) (w.heap.size + 1) L a c (⟨.string ⟨#[116, 105, 109, 101, 116, 97, 98, 108, 101]⟩, .slice none 0 0, .int .i64 0, .int .i64 0, .int .i64 0, .int .i64 0, .int .i64 0, .int .i64 0, .int .i64 0, .slice none 0 0, .slice none 0 0, .slice none 0 0⟩ : Tv) 0 := by
  obtain ⟨h1, h2, h3⟩ := hL
  refine ⟨⟨⟨#[]⟩, ⟨#[]⟩, Has.new _ _ _ (by simp), by decide, by decide⟩, ⟨0, ((Has.new _ _ _ (by simp)).alloc _ : Has _ _ #[.slice a L.length c, .int .i64 ((0 : Nat) : Int)]), by omega, h1, h2, ?_⟩, by omega, ?_⟩
  · rcases h3 with e | ⟨g, o, e1, e2, e3⟩
    · exact .inl e
    · refine .inr ⟨g, o, e1, by simp; omega, by omega, fun i hi => ?_⟩
      rw [← e3 i hi]
      have hb := ((((Below.refl w.heap.size w).alloc (Nat.le_refl _) (.cells #[.string ⟨#[]⟩, .slice none 0 0, .int .i64 0, .int .i64 0, .int .i64 0, .int .i64 0, .int .i64 0, .int .i64 0, .int .i64 0, .slice none 0 0, .slice none 0 0, .slice none 0 0] 29)).alloc (by simp) (.cells #[.slice a L.length c, .int .i64 0] 45)).alloc (by simp; omega) (.cells #[.string ⟨#[116, 105, 109, 101, 116, 97, 98, 108, 101]⟩, .slice none 0 0, .int .i64 0, .int .i64 0, .int .i64 0, .int .i64 0, .int .i64 0, .int .i64 0, .int .i64 0, .slice none 0 0, .slice none 0 0, .slice none 0 0, .string ⟨#[]⟩, .pointer (some ⟨w.heap.size + 1, 0, none⟩), .string ⟨#[]⟩] 47))
      exact hb.cell (p := ⟨g, o + i, none⟩) e2
  · rcases h3 with e | ⟨g, o, e1, e2, e3⟩
    · exact .inl e
    · refine .inr fun g' o' e' => ?_
      rw [e1] at e'
      injection e' with e'
      injection e' with e' _
      omega
end Go.Proofs.Ytddphepgcihdbaa
