import Derived.Deep.DeepCutAuto
import Derived.Test.YtoaokpmnjppfcaaWaD
namespace Go.Proofs.Ytoaokpmnjppfcaa
open Go.RowKit
set_option linter.unusedVariables false
set_option linter.unusedSimpArgs false

/-- What stands while a pair is looked at. -/
structure PSt (w wx : World) (F : Nat) (vC vA vB : Array Value) (z : Al) : Prop where
  f : Has wx F #[.int .i64 z.k, .int .i64 z.t, .int .i64 z.a, .int .i64 z.b]
  c : Has wx w.heap.size vC
  a : Has wx (w.heap.size + 1) vA
  b : Has wx (w.heap.size + 2) vB
  o : Only (fun q => q = F) w wx
theorem PSt.below {w wx wy : World} {F : Nat} {vC vA vB : Array Value} {z : Al} (h : PSt w wx F vC vA vB z) (hb : Below wx.heap.size wx wy) : PSt w wy F vC vA vB z :=
  ⟨h.f.below hb, h.c.below hb, h.a.below hb, h.b.below hb, h.o.below hb⟩
theorem PSt.next {w wx wy : World} {F : Nat} {vC vA vB : Array Value} {z y : Al} (h : PSt w wx F vC vA vB z) (hF : F < w.heap.size) (hf : Has wy F #[.int .i64 y.k, .int .i64 y.t, .int .i64 y.a, .int .i64 y.b]) (ho : Only (fun q => q = F) wx wy) : PSt w wy F vC vA vB y :=
  ⟨hf, h.c.only ho (by omega), h.a.only ho (by omega), h.b.only ho (by omega), h.o.trans ho⟩
theorem PSt.is {w wx : World} {F : Nat} {vC vA vB : Array Value} {z y : Al} (h : PSt w wx F vC vA vB z) (e : z = y) : PSt w wx F vC vA vB y := e ▸ h

set_option maxRecDepth 100000 in
set_option maxHeartbeats 4000000 in
theorem pair_of (x : Al) (ca cb cab cba : Int) (a b : Tn) (A1 B1 A0 B0 : Bool) (E1 E2 : Int) (F : Nat) (w : World) (hF0 : Has w F #[.int .i64 x.k, .int .i64 x.t, .int .i64 x.a, .int .i64 x.b])
    (ha1 : ∀ W, Calls Try.prog 53 #[.agg #[.int .u8 a.now.ch, .int .i64 a.now.lo, .int .i64 a.now.fr]] W fun e w' => e = .returned (.bool A1) ∧ Below W.heap.size W w')
    (hb1 : ∀ W, Calls Try.prog 53 #[.agg #[.int .u8 b.now.ch, .int .i64 b.now.lo, .int .i64 b.now.fr]] W fun e w' => e = .returned (.bool B1) ∧ Below W.heap.size W w')
    (ha0 : ∀ W, Calls Try.prog 53 #[.agg #[.int .u8 a.was.ch, .int .i64 a.was.lo, .int .i64 a.was.fr]] W fun e w' => e = .returned (.bool A0) ∧ Below W.heap.size W w')
    (hb0 : ∀ W, Calls Try.prog 53 #[.agg #[.int .u8 b.was.ch, .int .i64 b.was.lo, .int .i64 b.was.fr]] W fun e w' => e = .returned (.bool B0) ∧ Below W.heap.size W w')
    (h1 : ∀ W, Calls Try.prog 54 #[.agg #[.int .i64 a.t, .int .u8 a.was.ch, .int .i64 a.was.lo, .int .i64 a.was.fr, .int .u8 a.now.ch, .int .i64 a.now.lo, .int .i64 a.now.fr], .agg #[.int .i64 b.t, .int .u8 b.was.ch, .int .i64 b.was.lo, .int .i64 b.was.fr, .int .u8 b.now.ch, .int .i64 b.now.lo, .int .i64 b.now.fr], .int .i64 cab] W fun e w' => e = .returned (.int .i64 E1) ∧ Below W.heap.size W w')
    (h2 : ∀ W, Calls Try.prog 54 #[.agg #[.int .i64 b.t, .int .u8 b.was.ch, .int .i64 b.was.lo, .int .i64 b.was.fr, .int .u8 b.now.ch, .int .i64 b.now.lo, .int .i64 b.now.fr], .agg #[.int .i64 a.t, .int .u8 a.was.ch, .int .i64 a.was.lo, .int .i64 a.was.fr, .int .u8 a.now.ch, .int .i64 a.now.lo, .int .i64 a.now.fr], .int .i64 cba] W fun e w' => e = .returned (.int .i64 E2) ∧ Below W.heap.size W w') :
    Calls Try.prog 38 #[.agg #[.int .i64 ca, .int .i64 cb, .int .i64 cab, .int .i64 cba], .agg #[.int .i64 a.t, .int .u8 a.was.ch, .int .i64 a.was.lo, .int .i64 a.was.fr, .int .u8 a.now.ch, .int .i64 a.now.lo, .int .i64 a.now.fr], .agg #[.int .i64 b.t, .int .u8 b.was.ch, .int .i64 b.was.lo, .int .i64 b.was.fr, .int .u8 b.now.ch, .int .i64 b.now.lo, .int .i64 b.now.fr], .func (.func 34) #[] #[.pointer (some ⟨F, 0, none⟩)]] w fun e w' => e = .returned (.tuple #[]) ∧ Has w' F #[.int .i64 (put (put (put x (A1 && (B1 && !(A0 && B0))) ⟨7, a.t, ca, cb⟩) (!decide (E1 = 0)) ⟨E1, a.t, ca, cb⟩) (!decide (E2 = 0)) ⟨E2, a.t, cb, ca⟩).k, .int .i64 (put (put (put x (A1 && (B1 && !(A0 && B0))) ⟨7, a.t, ca, cb⟩) (!decide (E1 = 0)) ⟨E1, a.t, ca, cb⟩) (!decide (E2 = 0)) ⟨E2, a.t, cb, ca⟩).t, .int .i64 (put (put (put x (A1 && (B1 && !(A0 && B0))) ⟨7, a.t, ca, cb⟩) (!decide (E1 = 0)) ⟨E1, a.t, ca, cb⟩) (!decide (E2 = 0)) ⟨E2, a.t, cb, ca⟩).a, .int .i64 (put (put (put x (A1 && (B1 && !(A0 && B0))) ⟨7, a.t, ca, cb⟩) (!decide (E1 = 0)) ⟨E1, a.t, ca, cb⟩) (!decide (E2 = 0)) ⟨E2, a.t, cb, ca⟩).b] ∧ Only (fun q => q = F) w w' := by
  have hsz := hF0.1
  have hS : PSt w (((w.alloc (.cells #[.int .i64 ca, .int .i64 cb, .int .i64 cab, .int .i64 cba] 68)).alloc (.cells #[.int .i64 a.t, .int .u8 a.was.ch, .int .i64 a.was.lo, .int .i64 a.was.fr, .int .u8 a.now.ch, .int .i64 a.now.lo, .int .i64 a.now.fr] 85)).alloc (.cells #[.int .i64 b.t, .int .u8 b.was.ch, .int .i64 b.was.lo, .int .i64 b.was.fr, .int .u8 b.now.ch, .int .i64 b.now.lo, .int .i64 b.now.fr] 85)) F #[.int .i64 ca, .int .i64 cb, .int .i64 cab, .int .i64 cba] #[.int .i64 a.t, .int .u8 a.was.ch, .int .i64 a.was.lo, .int .i64 a.was.fr, .int .u8 a.now.ch, .int .i64 a.now.lo, .int .i64 a.now.fr] #[.int .i64 b.t, .int .u8 b.was.ch, .int .i64 b.was.lo, .int .i64 b.was.fr, .int .u8 b.now.ch, .int .i64 b.now.lo, .int .i64 b.now.fr] x := ⟨((hF0.alloc _).alloc _).alloc _, ((Has.new _ _ _ rfl).alloc _).alloc _, (Has.new _ _ _ (by simp)).alloc _, Has.new _ _ _ (by simp), (((Only.refl _ _).alloc _).alloc _).alloc _⟩
  have h34 := fun (z y : Al) (W : World) h => raise_any z y F W h
  clear hF0
  obtain ⟨bA, ebA⟩ : ∃ q : Bool, (A1 && (B1 && !(A0 && B0))) = q := ⟨_, rfl⟩
  have ebA' : Hid ((A1 && (B1 && !(A0 && B0))) = bA) := ebA
  rw [ebA]
  clear ebA
  go_enter Try.func38, Try.ntmps38
  go_upto_region 1 with fail
  generalize (((w.alloc (.cells #[.int .i64 ca, .int .i64 cb, .int .i64 cab, .int .i64 cba] 68)).alloc (.cells #[.int .i64 a.t, .int .u8 a.was.ch, .int .i64 a.was.lo, .int .i64 a.was.fr, .int .u8 a.now.ch, .int .i64 a.now.lo, .int .i64 a.now.fr] 85)).alloc (.cells #[.int .i64 b.t, .int .u8 b.was.ch, .int .i64 b.was.lo, .int .i64 b.was.fr, .int .u8 b.now.ch, .int .i64 b.now.lo, .int .i64 b.now.fr] 85)) = V at *
  go_cut [28] (fun s wx => s = .bool bA ∧ PSt w wx F #[.int .i64 ca, .int .i64 cb, .int .i64 cab, .int .i64 cba] #[.int .i64 a.t, .int .u8 a.was.ch, .int .i64 a.was.lo, .int .i64 a.was.fr, .int .u8 a.now.ch, .int .i64 a.now.lo, .int .i64 a.now.fr] #[.int .i64 b.t, .int .u8 b.was.ch, .int .i64 b.was.lo, .int .i64 b.was.fr, .int .u8 b.now.ch, .int .i64 b.now.lo, .int .i64 b.now.fr] x)
  case first =>
    obtain ⟨_, i1, _⟩ := id hS.c
    obtain ⟨_, i2, _⟩ := id hS.a
    obtain ⟨_, i3, _⟩ := id hS.b
    cases A1 with
    | false =>
      go_wp2_with (first
      | (go_at_call 53; (with_reducible refine Calls.mono (ha1 _) ?_); rintro e w1 ⟨rfl, kb⟩; replace hS := hS.below kb; clear kb i1 i2 i3; obtain ⟨_, i1, _⟩ := id hS.c; obtain ⟨_, i2, _⟩ := id hS.a; obtain ⟨_, i3, _⟩ := id hS.b)
      | (go_at_call 53; (with_reducible refine Calls.mono (hb1 _) ?_); rintro e w1 ⟨rfl, kb⟩; replace hS := hS.below kb; clear kb i1 i2 i3; obtain ⟨_, i1, _⟩ := id hS.c; obtain ⟨_, i2, _⟩ := id hS.a; obtain ⟨_, i3, _⟩ := id hS.b)
      | (go_at_call 53; (with_reducible refine Calls.mono (ha0 _) ?_); rintro e w1 ⟨rfl, kb⟩; replace hS := hS.below kb; clear kb i1 i2 i3; obtain ⟨_, i1, _⟩ := id hS.c; obtain ⟨_, i2, _⟩ := id hS.a; obtain ⟨_, i3, _⟩ := id hS.b)
      | (go_at_call 53; (with_reducible refine Calls.mono (hb0 _) ?_); rintro e w1 ⟨rfl, kb⟩; replace hS := hS.below kb; clear kb i1 i2 i3; obtain ⟨_, i1, _⟩ := id hS.c; obtain ⟨_, i2, _⟩ := id hS.a; obtain ⟨_, i3, _⟩ := id hS.b))
      go_meet
      exact ⟨by have := ebA'.out; subst this; rfl, hS⟩
    | true =>
      cases B1 with
      | false =>
        go_wp2_with (first
      | (go_at_call 53; (with_reducible refine Calls.mono (ha1 _) ?_); rintro e w1 ⟨rfl, kb⟩; replace hS := hS.below kb; clear kb i1 i2 i3; obtain ⟨_, i1, _⟩ := id hS.c; obtain ⟨_, i2, _⟩ := id hS.a; obtain ⟨_, i3, _⟩ := id hS.b)
      | (go_at_call 53; (with_reducible refine Calls.mono (hb1 _) ?_); rintro e w1 ⟨rfl, kb⟩; replace hS := hS.below kb; clear kb i1 i2 i3; obtain ⟨_, i1, _⟩ := id hS.c; obtain ⟨_, i2, _⟩ := id hS.a; obtain ⟨_, i3, _⟩ := id hS.b)
      | (go_at_call 53; (with_reducible refine Calls.mono (ha0 _) ?_); rintro e w1 ⟨rfl, kb⟩; replace hS := hS.below kb; clear kb i1 i2 i3; obtain ⟨_, i1, _⟩ := id hS.c; obtain ⟨_, i2, _⟩ := id hS.a; obtain ⟨_, i3, _⟩ := id hS.b)
      | (go_at_call 53; (with_reducible refine Calls.mono (hb0 _) ?_); rintro e w1 ⟨rfl, kb⟩; replace hS := hS.below kb; clear kb i1 i2 i3; obtain ⟨_, i1, _⟩ := id hS.c; obtain ⟨_, i2, _⟩ := id hS.a; obtain ⟨_, i3, _⟩ := id hS.b))
        go_meet
        exact ⟨by have := ebA'.out; subst this; rfl, hS⟩
      | true =>
        cases A0 with
        | false =>
          go_wp2_with (first
      | (go_at_call 53; (with_reducible refine Calls.mono (ha1 _) ?_); rintro e w1 ⟨rfl, kb⟩; replace hS := hS.below kb; clear kb i1 i2 i3; obtain ⟨_, i1, _⟩ := id hS.c; obtain ⟨_, i2, _⟩ := id hS.a; obtain ⟨_, i3, _⟩ := id hS.b)
      | (go_at_call 53; (with_reducible refine Calls.mono (hb1 _) ?_); rintro e w1 ⟨rfl, kb⟩; replace hS := hS.below kb; clear kb i1 i2 i3; obtain ⟨_, i1, _⟩ := id hS.c; obtain ⟨_, i2, _⟩ := id hS.a; obtain ⟨_, i3, _⟩ := id hS.b)
      | (go_at_call 53; (with_reducible refine Calls.mono (ha0 _) ?_); rintro e w1 ⟨rfl, kb⟩; replace hS := hS.below kb; clear kb i1 i2 i3; obtain ⟨_, i1, _⟩ := id hS.c; obtain ⟨_, i2, _⟩ := id hS.a; obtain ⟨_, i3, _⟩ := id hS.b)
      | (go_at_call 53; (with_reducible refine Calls.mono (hb0 _) ?_); rintro e w1 ⟨rfl, kb⟩; replace hS := hS.below kb; clear kb i1 i2 i3; obtain ⟨_, i1, _⟩ := id hS.c; obtain ⟨_, i2, _⟩ := id hS.a; obtain ⟨_, i3, _⟩ := id hS.b))
          go_meet
          exact ⟨by have := ebA'.out; subst this; rfl, hS⟩
        | true =>
          go_wp2_with (first
      | (go_at_call 53; (with_reducible refine Calls.mono (ha1 _) ?_); rintro e w1 ⟨rfl, kb⟩; replace hS := hS.below kb; clear kb i1 i2 i3; obtain ⟨_, i1, _⟩ := id hS.c; obtain ⟨_, i2, _⟩ := id hS.a; obtain ⟨_, i3, _⟩ := id hS.b)
      | (go_at_call 53; (with_reducible refine Calls.mono (hb1 _) ?_); rintro e w1 ⟨rfl, kb⟩; replace hS := hS.below kb; clear kb i1 i2 i3; obtain ⟨_, i1, _⟩ := id hS.c; obtain ⟨_, i2, _⟩ := id hS.a; obtain ⟨_, i3, _⟩ := id hS.b)
      | (go_at_call 53; (with_reducible refine Calls.mono (ha0 _) ?_); rintro e w1 ⟨rfl, kb⟩; replace hS := hS.below kb; clear kb i1 i2 i3; obtain ⟨_, i1, _⟩ := id hS.c; obtain ⟨_, i2, _⟩ := id hS.a; obtain ⟨_, i3, _⟩ := id hS.b)
      | (go_at_call 53; (with_reducible refine Calls.mono (hb0 _) ?_); rintro e w1 ⟨rfl, kb⟩; replace hS := hS.below kb; clear kb i1 i2 i3; obtain ⟨_, i1, _⟩ := id hS.c; obtain ⟨_, i2, _⟩ := id hS.a; obtain ⟨_, i3, _⟩ := id hS.b))
          go_meet
          exact ⟨by have := ebA'.out; subst this; simp, hS⟩
  case rest =>
    obtain ⟨rfl, hS'⟩ := hcut
    clear hS ebA' ha1 hb1 ha0 hb0
    have hS := hS'
    clear hS'
    go_upto_if 28 with fail
    go_cut [] (fun wx => PSt w wx F #[.int .i64 ca, .int .i64 cb, .int .i64 cab, .int .i64 cba] #[.int .i64 a.t, .int .u8 a.was.ch, .int .i64 a.was.lo, .int .i64 a.was.fr, .int .u8 a.now.ch, .int .i64 a.now.lo, .int .i64 a.now.fr] #[.int .i64 b.t, .int .u8 b.was.ch, .int .i64 b.was.lo, .int .i64 b.was.fr, .int .u8 b.now.ch, .int .i64 b.now.lo, .int .i64 b.now.fr] (put x bA ⟨7, a.t, ca, cb⟩))
    case first =>
      obtain ⟨_, i1, _⟩ := id hS.c
      obtain ⟨_, i2, _⟩ := id hS.a
      obtain ⟨_, i3, _⟩ := id hS.b
      cases bA with
      | false =>
        go_wp2
        go_meet
        exact hS
      | true =>
        have h34' := h34 x ⟨7, a.t, ca, cb⟩ _ hS.f
        dsimp only at h34'
        go_wp2_with (go_at_call 34; (with_reducible refine Calls.mono h34' ?_); rintro e w1 ⟨rfl, kF, kO⟩)
        go_meet
        exact hS.next hsz kF kO
    case rest =>
      have hS := hcut
      clear hcut
      obtain ⟨x1, ex1⟩ : ∃ q, put x bA ⟨7, a.t, ca, cb⟩ = q := ⟨_, rfl⟩
      rw [ex1] at hS
      have ex1' : Hid (put x bA ⟨7, a.t, ca, cb⟩ = x1) := ex1
      clear ex1
      obtain ⟨_, i1, _⟩ := id hS.c
      obtain ⟨_, i2, _⟩ := id hS.a
      obtain ⟨_, i3, _⟩ := id hS.b
      go_upto_if 44 with (go_at_call 54; (with_reducible refine Calls.mono (h1 _) ?_); rintro e w1 ⟨rfl, kb⟩; replace hS := hS.below kb; clear kb i1 i2 i3; obtain ⟨_, i1, _⟩ := id hS.c; obtain ⟨_, i2, _⟩ := id hS.a; obtain ⟨_, i3, _⟩ := id hS.b)
      go_cut [] (fun wx => PSt w wx F #[.int .i64 ca, .int .i64 cb, .int .i64 cab, .int .i64 cba] #[.int .i64 a.t, .int .u8 a.was.ch, .int .i64 a.was.lo, .int .i64 a.was.fr, .int .u8 a.now.ch, .int .i64 a.now.lo, .int .i64 a.now.fr] #[.int .i64 b.t, .int .u8 b.was.ch, .int .i64 b.was.lo, .int .i64 b.was.fr, .int .u8 b.now.ch, .int .i64 b.now.lo, .int .i64 b.now.fr] (put x1 (!decide (E1 = 0)) ⟨E1, a.t, ca, cb⟩))
      case first =>
        by_cases hE : E1 = 0
        · have nE : (E1 != 0) = false := by simp [hE]
          have e : x1 = put x1 (!decide (E1 = 0)) ⟨E1, a.t, ca, cb⟩ := by simp [hE, put]
          clear hE
          go_wp2
          go_meet
          exact hS.is e
        · have nE : (E1 != 0) = true := by simpa using hE
          have h34' := h34 x1 ⟨E1, a.t, ca, cb⟩ _ hS.f
          have e : rsF x1 ⟨E1, a.t, ca, cb⟩ = put x1 (!decide (E1 = 0)) ⟨E1, a.t, ca, cb⟩ := by simp [hE, put]
          dsimp only at h34'
          go_wp2_with (go_at_call 34; (with_reducible refine Calls.mono h34' ?_); rintro e w1 ⟨rfl, kF, kO⟩)
          go_meet
          exact (hS.next hsz kF kO).is e
      case rest =>
        clear hS i1 i2 i3
        have hS := hcut
        clear hcut
        obtain ⟨x2, ex2⟩ : ∃ q, put x1 (!decide (E1 = 0)) ⟨E1, a.t, ca, cb⟩ = q := ⟨_, rfl⟩
        rw [ex2] at hS
        have ex2' : Hid (put x1 (!decide (E1 = 0)) ⟨E1, a.t, ca, cb⟩ = x2) := ex2
        clear ex2
        obtain ⟨_, i1, _⟩ := id hS.c
        obtain ⟨_, i2, _⟩ := id hS.a
        obtain ⟨_, i3, _⟩ := id hS.b
        by_cases hE : E2 = 0
        · have nE : (E2 != 0) = false := by simp [hE]
          have e : x2 = put x2 (!decide (E2 = 0)) ⟨E2, a.t, cb, ca⟩ := by simp [hE, put]
          clear hE
          go_wp2_with (go_at_call 54; (with_reducible refine Calls.mono (h2 _) ?_); rintro e w1 ⟨rfl, kb⟩; replace hS := hS.below kb; clear kb i1 i2 i3; obtain ⟨_, i1, _⟩ := id hS.c; obtain ⟨_, i2, _⟩ := id hS.a; obtain ⟨_, i3, _⟩ := id hS.b)
          refine ⟨rfl, .tuple #[], ?_, rfl, (hS.is (e.trans (by rw [← ex2'.out, ← ex1'.out]))).f, hS.o⟩
          simp [results, Try.results38, go_sem]
        · have nE : (E2 != 0) = true := by simpa using hE
          have e : rsF x2 ⟨E2, a.t, cb, ca⟩ = put x2 (!decide (E2 = 0)) ⟨E2, a.t, cb, ca⟩ := by simp [hE, put]
          have h34' := fun W h => h34 x2 ⟨E2, a.t, cb, ca⟩ W h
          dsimp only at h34'
          go_wp2_with (first | (go_at_call 54; (with_reducible refine Calls.mono (h2 _) ?_); rintro e w1 ⟨rfl, kb⟩; replace hS := hS.below kb; clear kb i1 i2 i3; obtain ⟨_, i1, _⟩ := id hS.c; obtain ⟨_, i2, _⟩ := id hS.a; obtain ⟨_, i3, _⟩ := id hS.b) | (go_at_call 34; (with_reducible refine Calls.mono (h34' _ hS.f) ?_); rintro e w1 ⟨rfl, kF, kO⟩))
          refine ⟨rfl, .tuple #[], ?_, rfl, ((hS.next hsz kF kO).is (e.trans (by rw [← ex2'.out, ← ex1'.out]))).f, (hS.next hsz kF kO).o⟩
          simp [results, Try.results38, go_sem]

theorem pair_any (x : Al) (c : Cf) (a b : Tn) (F : Nat) (w : World) (hF0 : Has w F #[.int .i64 x.k, .int .i64 x.t, .int .i64 x.a, .int .i64 x.b]) (w1 : -9223372036854775808 ≤ b.t - a.was.fr ∧ b.t - a.was.fr ≤ 9223372036854775807) (w2 : -9223372036854775808 ≤ a.t - b.was.fr ∧ a.t - b.was.fr ≤ 9223372036854775807) :
    Calls Try.prog 38 #[.agg #[.int .i64 c.a, .int .i64 c.b, .int .i64 c.ab, .int .i64 c.ba], .agg #[.int .i64 a.t, .int .u8 a.was.ch, .int .i64 a.was.lo, .int .i64 a.was.fr, .int .u8 a.now.ch, .int .i64 a.now.lo, .int .i64 a.now.fr], .agg #[.int .i64 b.t, .int .u8 b.was.ch, .int .i64 b.was.lo, .int .i64 b.was.fr, .int .u8 b.now.ch, .int .i64 b.now.lo, .int .i64 b.now.fr], .func (.func 34) #[] #[.pointer (some ⟨F, 0, none⟩)]] w fun e w' => e = .returned (.tuple #[]) ∧ Has w' F #[.int .i64 (prF x c a b).k, .int .i64 (prF x c a b).t, .int .i64 (prF x c a b).a, .int .i64 (prF x c a b).b] ∧ Only (fun q => q = F) w w' :=
  pair_of x c.a c.b c.ab c.ba a b _ _ _ _ _ _ F w hF0 (fun W => isAway_any _ _ _ W) (fun W => isAway_any _ _ _ W) (fun W => isAway_any _ _ _ W) (fun W => isAway_any _ _ _ W) (fun W => early_any a b c.ab W w1) (fun W => early_any b a c.ba W w2)
end Go.Proofs.Ytoaokpmnjppfcaa
