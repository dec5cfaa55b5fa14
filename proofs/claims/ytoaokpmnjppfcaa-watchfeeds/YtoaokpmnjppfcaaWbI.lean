import Derived.Deep.DeepCutAuto
import Derived.Test.YtoaokpmnjppfcaaWbGH
namespace Go.Proofs.Ytoaokpmnjppfcaa
open Go.RowKit
set_option linter.unusedVariables false
set_option linter.unusedSimpArgs false

set_option maxRecDepth 100000 in
set_option maxHeartbeats 2000000 in
theorem tripR_any {w : World} {b rb : Nat} {vg vc vn vt : Value} {G : List Gp} {C : List Cf} {tk : Int} {la : ByteArray} {ru gn : Nat → Int} {tr : Al} {L : List Al} (h : Rm w b rb vg vc vn vt G C tk la ru gn tr L) : Calls Try.prog 22 #[.pointer (some ⟨b, 0, none⟩)] w fun e w' => e = .returned (.agg #[.int .i64 tr.k, .int .i64 tr.t, .int .i64 tr.a, .int .i64 tr.b]) ∧ Below w.heap.size w w' := by
  obtain ⟨_, i1, _⟩ := id h.ob
  obtain ⟨tk', t', a', b'⟩ := tr
  dsimp only at *
  clear h
  generalize G.length = n at *
  go_enter Try.func22, Try.ntmps22
  go_wp2
  exact bodyPost_ret (v := .agg #[.int .i64 tk', .int .i64 t', .int .i64 a', .int .i64 b']) (by simp [results, Try.results22, go_sem]) rfl ⟨rfl, belN1⟩
theorem own_src {w : World} {base e sz n : Nat} {a : Option Addr} {c : Nat} {xs : List Value} (h : w.ownsRow base e sz (.slice a n c) n xs) : (∀ ad, a = some ad → ∀ j u, xs[j]? = some u → w.cell? (ad.add j) = some u) ∧ (a = none → n = 0) := by
  refine ⟨fun ad e j u hu => ?_, fun e => ?_⟩
  · subst e
    rcases h.2 with ⟨e', _⟩ | ⟨g, cap, cur, e', _⟩
    · cases e'
    · injection e' with e1 e2 e3
      injection e1 with e1
      subst e1
      rw [Go.WideShapes.add_plain, Nat.zero_add]
      exact own_reads h rfl j u hu
  · subst e
    rcases h.2 with ⟨e', h0⟩ | ⟨g, cap, cur, e', _⟩
    · exact h0
    · cases e'
set_option maxRecDepth 100000 in
set_option maxHeartbeats 2000000 in
theorem logR_any {w : World} {b rb : Nat} {vg vc vn vt : Value} {G : List Gp} {C : List Cf} {tk : Int} {la : ByteArray} {ru gn : Nat → Int} {tr : Al} {L : List Al} (h : Rm w b rb vg vc vn vt G C tk la ru gn tr L) (hL : L.length ≤ 4398046511000) : Calls Try.prog 12 #[.pointer (some ⟨b, 0, none⟩)] w fun e w' => (∃ a' c', e = .returned (.slice a' L.length c') ∧ w'.ownsRow w.heap.size 43 4 (.slice a' L.length c') L.length (cellsF Al.cs L)) ∧ Below w.heap.size w w' := by
  obtain ⟨-, -, -, a, c, rfl⟩ := h.vs
  obtain ⟨ti, hi, hx⟩ := Option.map_eq_some_iff.1 infoA
  have hi0 : ti.zero = some (.agg #[.int .i64 0, .int .i64 0, .int .i64 0, .int .i64 0]) := congrArg (·.1) hx
  have hi1 : ti.size = 4 := congrArg (·.2.1) hx
  have hi2 : ti.bytes = 32 := congrArg (·.2.2) hx
  obtain ⟨s1, s2⟩ := own_src h.tol
  obtain ⟨_, i1, _⟩ := id h.ob
  have hl := cellsF_len al_len L
  have ho := cellsF_one al_one L
  clear h
  generalize G.length = n at *
  go_enter Try.func12, Try.ntmps12
  go_wp2_with (at_builtin; refine wpList_copyv rfl _ _ 39 rfl 43 ti _ 4 32 Try.underlying39 hi hi0 hi1 hi2 rfl (by decide) a L.length c (cellsF Al.cs L) rfl rfl hl s1 ho s2 (by unfold maxLen; omega) (by omega) ?_; intro a' c' w1 o1 hb)
  go_ret
  exact ⟨⟨a', c', rfl, o1⟩, hb⟩
theorem Rm.begun {w w' : World} {b rb : Nat} {vg vc vn vt : Value} {G : List Gp} {C : List Cf} {tk : Int} {la : ByteArray} {ru gn : Nat → Int} {tr : Al} {L : List Al} {rb' : Nat} {ga na : Option Addr} {gc nc : Nat} (h : Rm w b rb vg vc vn vt G C tk la ru gn tr L) (hg : vg = .slice ga G.length gc) (hS : BS w w' b rb' G.length G.length ga gc na nc vc vt) : Rm w' b rb' vg vc (.slice na G.length nc) vt G C 0 ⟨#[]⟩ (fun _ => 0) (fun _ => -1) al0 L ∧ ∀ q, Dyn b rb' (.slice na G.length nc) vt q → Dyn b rb vn vt q ∨ w.heap.size ≤ q := by
  have p := hS.p
  have nn := fun q hq => own_lt hS.own q hq
  have tt := fun q hq => own_lt h.tol q hq
  have hb := h.ob.1
  have D : ∀ q, q < w.heap.size → ¬ Dyn b rb vn vt q → ¬ Dyn b rb' (.slice na G.length nc) vt q := by
    intro q hq hn hd
    rcases hd with e | e | e | e
    · exact hn (.inl e)
    · omega
    · have := (nn q e).1; omega
    · exact hn (.inr (.inr (.inr e)))
  refine ⟨⟨by rw [hg]; exact hS.ob, hS.run, own_base hS.own (Nat.zero_le _), own_only2 h.tol hS.oo (fun q hq e => h.d3.1 (by rw [hq, e])), h.gr.move hS.oo (fun q _ hq hn => ⟨fun e => hn (.inl e), D q hq hn⟩), h.cf.move hS.oo (fun q _ hq hn => ⟨fun e => hn (.inl e), D q hq hn⟩), by omega, ⟨fun e => by have := (nn _ e).1; omega, fun e => by have := (nn _ e).1; omega⟩, ⟨h.d3.1, fun e => by have := (tt _ e).2; omega⟩, fun q e e' => by have := (nn _ e).1; have := (tt _ e').2; omega⟩, ?_⟩
  intro q hd
  rcases hd with e | e | e | e
  · exact .inl (.inl e)
  · exact .inr (by omega)
  · exact .inr (by have := (nn q e).1; omega)
  · exact .inl (.inr (.inr (.inr e)))
set_option maxRecDepth 100000 in
set_option maxHeartbeats 2000000 in
theorem resetR_no {w : World} {b rb : Nat} {vg vc vn vt : Value} {G : List Gp} {C : List Cf} {tk : Int} {la : ByteArray} {ru gn : Nat → Int} {tr : Al} {L : List Al} (h : Rm w b rb vg vc vn vt G C tk la ru gn tr L) (hk : tr.k = 0) : Calls Try.prog 23 #[.pointer (some ⟨b, 0, none⟩)] w fun e w' => e = .returned (.bool false) ∧ Below w.heap.size w w' := by
  obtain ⟨_, i1, _⟩ := id h.ob
  have hd : (tr.k == 0) = true := by simp [hk]
  clear h hk
  generalize G.length = n at *
  go_enter Try.func23, Try.ntmps23
  go_wp2
  go_ret
  exact ⟨rfl, Below.refl _ _⟩
set_option maxRecDepth 100000 in
set_option maxHeartbeats 2000000 in
theorem resetR_yes {w : World} {b rb : Nat} {vg vc vn vt : Value} {G : List Gp} {C : List Cf} {tk : Int} {la : ByteArray} {ru gn : Nat → Int} {tr : Al} {L : List Al} (h : Rm w b rb vg vc vn vt G C tk la ru gn tr L) (hn : G.length ≤ 64) (hk : tr.k ≠ 0) : Calls Try.prog 23 #[.pointer (some ⟨b, 0, none⟩)] w fun e w' => e = .returned (.bool true) ∧ ∃ rb' vn', Rm w' b rb' vg vc vn' vt G C 0 ⟨#[]⟩ (fun _ => 0) (fun _ => -1) al0 L ∧ (∀ q, Dyn b rb' vn' vt q → Dyn b rb vn vt q ∨ w.heap.size ≤ q) ∧ Only (fun q => q = b) w w' := by
  obtain ⟨⟨ga, gc, eg⟩, -, -, -⟩ := h.vs
  obtain ⟨_, i1, _⟩ := id h.ob
  have h20 := begin_any (by have := h.ob; rwa [eg] at this) hn
  have hd : (tr.k == 0) = false := beq_eq_false_iff_ne.2 hk
  have hR : ∀ (w' : World) (rb' : Nat) (na : Option Addr) (nc : Nat), BS w w' b rb' G.length G.length ga gc na nc vc vt → ∃ rb' vn', Rm w' b rb' vg vc vn' vt G C 0 ⟨#[]⟩ (fun _ => 0) (fun _ => -1) al0 L ∧ (∀ q, Dyn b rb' vn' vt q → Dyn b rb vn vt q ∨ w.heap.size ≤ q) ∧ Only (fun q => q = b) w w' := fun w' rb' na nc hS => ⟨rb', _, (h.begun eg hS).1, (h.begun eg hS).2, hS.oo⟩
  clear h hk
  go_enter Try.func23, Try.ntmps23
  go_wp2_with (go_at_call 20; (with_reducible refine Calls.mono h20 ?_); rintro e w4 ⟨rfl, rb', na, nc, hS⟩)
  go_ret
  exact ⟨rfl, hR _ _ _ _ hS⟩
set_option maxRecDepth 100000 in
set_option maxHeartbeats 2000000 in
theorem same_any (L : List Al) (n : Nat) (hn : L.length = n) (a1 a2 : Option Addr) (c1 c2 B1 B2 : Nat) (w : World) (hl : n ≤ 4398046511000) (o1 : w.ownsRow B1 43 4 (.slice a1 n c1) n (cellsF Al.cs L)) (o2 : w.ownsRow B2 43 4 (.slice a2 n c2) n (cellsF Al.cs L)) : Calls Try.prog 10 #[.slice a1 n c1, .slice a2 n c2] w fun e w' => e = .returned (.bool true) ∧ Below w.heap.size w w' := by
  go_enter Try.func10, Try.ntmps10
  go_wp2
  go_loopg [5] n (fun gk v wr => ∃ k : Nat, k + gk = n ∧ v = .int .i64 (k : Int) ∧ Below w.heap.size w wr)
  case atStart => exact ⟨0, by omega, rfl, Below.refl _ _⟩
  case round =>
    obtain ⟨k, hk, rfl, hB⟩ := hrel
    cases gk with
    | zero =>
      obtain rfl : k = n := by omega
      go_wp2
      go_ret
      exact ⟨rfl, hB⟩
    | succ g =>
      have hki : (k : Int) < (n : Int) := by omega
      have hkL : k < L.length := by omega
      obtain ⟨g1, e1, q1, -, -, z1⟩ := own_block o1 (by omega)
      obtain ⟨g2, e2, q2, -, -, z2⟩ := own_block o2 (by omega)
      have hw : IntKind.i64.wrap ((k : Int) + 1) = (k : Int) + 1 := wrap64 _ (by omega)
      injection q1 with q1 _ q3
      subst q3
      injection q2 with q2 _ q4
      subst q4
      subst q1 q2

      have rd : ∀ j u, (Al.cs L[k])[j]? = some u → (cellsF Al.cs L)[k * 4 + j]? = some u := fun j u hu => by
        have hj : j < 4 := by have := (List.getElem?_eq_some_iff.1 hu).1; rwa [al_len] at this
        rw [cellsF_get al_len L k j hkL hj]; exact hu
      generalize L[k] = x at rd
      obtain ⟨xk, xt, xa, xb⟩ := x
      have p0 := rd 0 _ rfl
      have p1 := rd 1 _ rfl
      have p2 := rd 2 _ rfl
      have p3 := rd 3 _ rfl
      simp only [Nat.add_zero] at p0
      have hcell : ∀ w', Below w.heap.size w w' → w'.cell? ⟨g1, k * 4, none⟩ = some (.int .i64 xk) ∧ w'.cell? ⟨g1, k * 4 + 1, none⟩ = some (.int .i64 xt) ∧ w'.cell? ⟨g1, k * 4 + 2, none⟩ = some (.int .i64 xa) ∧ w'.cell? ⟨g1, k * 4 + 3, none⟩ = some (.int .i64 xb) ∧ w'.cell? ⟨g2, k * 4, none⟩ = some (.int .i64 xk) ∧ w'.cell? ⟨g2, k * 4 + 1, none⟩ = some (.int .i64 xt) ∧ w'.cell? ⟨g2, k * 4 + 2, none⟩ = some (.int .i64 xa) ∧ w'.cell? ⟨g2, k * 4 + 3, none⟩ = some (.int .i64 xb) := fun w' hb => ⟨(hb.cell (p := ⟨g1, _, none⟩) z1).trans (own_reads o1 rfl _ _ p0), (hb.cell (p := ⟨g1, _, none⟩) z1).trans (own_reads o1 rfl _ _ p1), (hb.cell (p := ⟨g1, _, none⟩) z1).trans (own_reads o1 rfl _ _ p2), (hb.cell (p := ⟨g1, _, none⟩) z1).trans (own_reads o1 rfl _ _ p3), (hb.cell (p := ⟨g2, _, none⟩) z2).trans (own_reads o2 rfl _ _ p0), (hb.cell (p := ⟨g2, _, none⟩) z2).trans (own_reads o2 rfl _ _ p1), (hb.cell (p := ⟨g2, _, none⟩) z2).trans (own_reads o2 rfl _ _ p2), (hb.cell (p := ⟨g2, _, none⟩) z2).trans (own_reads o2 rfl _ _ p3)⟩
      obtain ⟨y0, y1, y2, y3, y4, y5, y6, y7⟩ := hcell _ hB
      clear rd p0 p1 p2 p3
      go_upto_region 6 with fail
      refine wp_region_noPanic ?_
      refine wp_region_held_drew (S := fun w' => w'.cell? ⟨g1, k * 4, none⟩ = some (.int .i64 xk) ∧ w'.cell? ⟨g1, k * 4 + 1, none⟩ = some (.int .i64 xt) ∧ w'.cell? ⟨g1, k * 4 + 2, none⟩ = some (.int .i64 xa) ∧ w'.cell? ⟨g1, k * 4 + 3, none⟩ = some (.int .i64 xb) ∧ w'.cell? ⟨g2, k * 4, none⟩ = some (.int .i64 xk) ∧ w'.cell? ⟨g2, k * 4 + 1, none⟩ = some (.int .i64 xt) ∧ w'.cell? ⟨g2, k * 4 + 2, none⟩ = some (.int .i64 xa) ∧ w'.cell? ⟨g2, k * 4 + 3, none⟩ = some (.int .i64 xb)) (by kernel_rfl) ?_ (fun hHeld => ?_)
      · (try dsimp only)
        exact hcell _ hB.drew
      refine wpAnyH_take (i := 0) (oi := { dst := some 17, op := Op.move (Operand.tmp 0), type := 39, pos := "law.go:17", after := #[], guard := none }) (v := ?_) rfl (by kernel_rfl) (by kernel_rfl) (by kernel_rfl) (fun _ _ _ h => h) (Or.inl ⟨by rfl, ?_⟩) (by assumption) ?_
      rotate_left
      · intro wz hSz; (try dsimp only at hSz); go_simp; all_goals (with_reducible rfl)
      (try simp only [Act.put, List.setIfInBounds_toArray, List.set_cons_zero, List.set_cons_succ])
      refine wpAnyH_take (i := 1) (oi := { dst := some 18, op := Op.move (Operand.tmp 5), type := 3, pos := "law.go:17", after := #[], guard := none }) (v := ?_) rfl (by kernel_rfl) (by kernel_rfl) (by kernel_rfl) (fun _ _ _ h => h) (Or.inl ⟨by rfl, ?_⟩) (by assumption) ?_
      rotate_left
      · intro wz hSz; (try dsimp only at hSz); go_simp; all_goals (with_reducible rfl)
      (try simp only [Act.put, List.setIfInBounds_toArray, List.set_cons_zero, List.set_cons_succ])
      refine wpAnyH_take (i := 2) (oi := { dst := some 19, op := Op.indexAddr 39 (Operand.tmp 17) (Operand.tmp 18), type := 0, pos := "law.go:17", after := #[{ on := 0, ground := Ground.data }, { on := 1, ground := Ground.data }], guard := none }) (v := ?_) rfl (by kernel_rfl) (by kernel_rfl) (by kernel_rfl) (fun _ _ _ h => h) (Or.inl ⟨by rfl, ?_⟩) (by assumption) ?_
      rotate_left
      · intro wz hSz; (try dsimp only at hSz); go_simp; all_goals (with_reducible rfl)
      (try simp only [Act.put, List.setIfInBounds_toArray, List.set_cons_zero, List.set_cons_succ])
      refine wpAnyH_take (i := 3) (oi := { dst := some 20, op := Op.load 43 (Operand.tmp 19), type := 43, pos := "law.go:17", after := #[{ on := 2, ground := Ground.data }], guard := none }) (v := ?_) rfl (by kernel_rfl) (by kernel_rfl) (by kernel_rfl) (fun _ _ _ h => h) (Or.inl ⟨by rfl, ?_⟩) (by assumption) ?_
      rotate_left
      · intro wz hSz; (try dsimp only at hSz); go_simp; all_goals (with_reducible rfl)
      (try simp only [Act.put, List.setIfInBounds_toArray, List.set_cons_zero, List.set_cons_succ])
      refine wpAnyH_take (i := 4) (oi := { dst := some 21, op := Op.move (Operand.tmp 1), type := 39, pos := "law.go:17", after := #[], guard := none }) (v := ?_) rfl (by kernel_rfl) (by kernel_rfl) (by kernel_rfl) (fun _ _ _ h => h) (Or.inl ⟨by rfl, ?_⟩) (by assumption) ?_
      rotate_left
      · intro wz hSz; (try dsimp only at hSz); go_simp; all_goals (with_reducible rfl)
      (try simp only [Act.put, List.setIfInBounds_toArray, List.set_cons_zero, List.set_cons_succ])
      refine wpAnyH_take (i := 5) (oi := { dst := some 22, op := Op.move (Operand.tmp 5), type := 3, pos := "law.go:17", after := #[], guard := none }) (v := ?_) rfl (by kernel_rfl) (by kernel_rfl) (by kernel_rfl) (fun _ _ _ h => h) (Or.inl ⟨by rfl, ?_⟩) (by assumption) ?_
      rotate_left
      · intro wz hSz; (try dsimp only at hSz); go_simp; all_goals (with_reducible rfl)
      (try simp only [Act.put, List.setIfInBounds_toArray, List.set_cons_zero, List.set_cons_succ])
      refine wpAnyH_take (i := 6) (oi := { dst := some 23, op := Op.indexAddr 39 (Operand.tmp 21) (Operand.tmp 22), type := 0, pos := "law.go:17", after := #[{ on := 4, ground := Ground.data }, { on := 5, ground := Ground.data }], guard := none }) (v := ?_) rfl (by kernel_rfl) (by kernel_rfl) (by kernel_rfl) (fun _ _ _ h => h) (Or.inl ⟨by rfl, ?_⟩) (by assumption) ?_
      rotate_left
      · intro wz hSz; (try dsimp only at hSz); go_simp; all_goals (with_reducible rfl)
      (try simp only [Act.put, List.setIfInBounds_toArray, List.set_cons_zero, List.set_cons_succ])
      refine wpAnyH_take (i := 7) (oi := { dst := some 24, op := Op.load 43 (Operand.tmp 23), type := 43, pos := "law.go:17", after := #[{ on := 6, ground := Ground.data }], guard := none }) (v := ?_) rfl (by kernel_rfl) (by kernel_rfl) (by kernel_rfl) (fun _ _ _ h => h) (Or.inl ⟨by rfl, ?_⟩) (by assumption) ?_
      rotate_left
      · intro wz hSz; (try dsimp only at hSz); go_simp; all_goals (with_reducible rfl)
      (try simp only [Act.put, List.setIfInBounds_toArray, List.set_cons_zero, List.set_cons_succ])
      refine wpAnyH_take (i := 8) (oi := { dst := some 25, op := Op.binOp BinOp.neq 43 (Operand.tmp 20) (Operand.tmp 24) 43, type := 4, pos := "law.go:17", after := #[{ on := 3, ground := Ground.data }, { on := 7, ground := Ground.data }], guard := none }) (v := ?_) rfl (by kernel_rfl) (by kernel_rfl) (by kernel_rfl) (fun _ _ _ h => h) (Or.inl ⟨by rfl, ?_⟩) (by assumption) ?_
      rotate_left
      · intro wz hSz; (try dsimp only at hSz); go_simp; all_goals (with_reducible rfl)
      (try simp only [Act.put, List.setIfInBounds_toArray, List.set_cons_zero, List.set_cons_succ])
      refine wpAnyH_done (by kernel_rfl) ?_ _
      refine NoPanic.normal ?_
      go_wp2_with fail
      go_roundg g
      case measure => omega
      case rel => exact ⟨k + 1, by omega, by push_cast; rfl, hB.drew⟩
end Go.Proofs.Ytoaokpmnjppfcaa
