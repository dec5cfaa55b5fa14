import Derived.Test.YtjfieclmagbfbaaGreatDoorJMaM
set_option linter.unusedSimpArgs false
set_option linter.unusedVariables false
set_option maxRecDepth 100000
set_option maxHeartbeats 8000000
namespace Go.Proofs.YtjfieclmagbfbaaGreatDoor
open Go.ChangeShapes Go.WideShapes Go.ChangeAt Go.RowKit
section
variable {H : Type} {enc : TypeId × Value → H} {W : World} {base n : Nat} {held : Bool} {cs : List Value} {y : DataW H × List MemPlace}
theorem conf_openW (h : DataW.trod enc Tryz.prog W base (fun _ => true) held n 75 cs = some y) (hw : WOk Tryz.prog 75 y.1) : ∃ a : Cf, cs.length = 4 ∧ (CfR (fun _ => True) W cs a ∧ a.ok) := by
 obtain ⟨xs, k, _, hy, hl, hlen, hf⟩ := DataW.trod_struct Tryz.underlying75 h
 subst hy
 rw [k59] at hl
 match cs, hl, xs, hlen with
 | [a0, a1, a2, a3], _, [y0, y1, y2, y3], _ =>
   have f0 : DataW.trod enc Tryz.prog W base (fun _ => true) held k 3 [a0] = some y0 := by simpa [k3] using hf 0 _ rfl
   have f1 : DataW.trod enc Tryz.prog W base (fun _ => true) held k 3 [a1] = some y1 := by simpa [k3] using hf 1 _ rfl
   have f2 : DataW.trod enc Tryz.prog W base (fun _ => true) held k 3 [a2] = some y2 := by simpa [k3] using hf 2 _ rfl
   have f3 : DataW.trod enc Tryz.prog W base (fun _ => true) held k 3 [a3] = some y3 := by simpa [k3] using hf 3 _ rfl
   obtain ⟨n0, e0, _, u0⟩ := DataW.trod_int Tryz.underlying3 f0; obtain ⟨n1, e1, _, u1⟩ := DataW.trod_int Tryz.underlying3 f1; obtain ⟨n2, e2, _, u2⟩ := DataW.trod_int Tryz.underlying3 f2; obtain ⟨n3, e3, _, u3⟩ := DataW.trod_int Tryz.underlying3 f3; simp at e0 e1 e2 e3; subst e0 e1 e2 e3; exact ⟨⟨n0, n1, n2, n3⟩, rfl, rfl, ⟨u0, u1, u2, u3⟩⟩
theorem confs_rowsW (h : DataW.trod enc Tryz.prog W base (fun _ => true) held n 23 cs = some y) (hw : WOk Tryz.prog 23 y.1) : ∃ v L, cs = [v] ∧ Rows 4 4398046511000 CfR (fun _ => True) W v L ∧ (∀ x ∈ L, x.ok) := by
 haveI := (⟨⟨0, 0, 0, 0⟩⟩ : Inhabited Cf)
 obtain ⟨v, L, e, r⟩ := rows_open (mx := 4398046511000) (R := fun S w cs x => CfR S w cs x ∧ (x.ok)) (sz := 4) (by decide) Tryz.underlying23 k59 y59 (fun n hn => by unfold reachBytes at hn; omega) (fun _ _ _ h w => conf_openW h w) h hw
 obtain ⟨r1, r2⟩ := rows_impW (R2 := CfR) (fun _ _ h => h) r
 exact ⟨v, L, e, r1, r2⟩
theorem tabs_openW (h : DataW.trod enc Tryz.prog W base (fun _ => true) held n 25 cs = some y) (hw : WOk Tryz.prog 25 y.1) : ∃ (L : List Gp) (M : List Cf) (v u : Value), cs = [v, u] ∧ Rows 5 2932031007317 GpR (fun _ => True) W v L ∧ (∀ x ∈ L, Sm x.name) ∧ Rows 4 4398046511000 CfR (fun _ => True) W u M ∧ (∀ x ∈ M, x.ok) := by
 obtain ⟨xs, k, _, hy, hl, hlen, hf⟩ := DataW.trod_struct Tryz.underlying25 h
 subst hy
 rw [k25] at hl
 match cs, hl, xs, hlen with
 | [a0, a1], _, [y0, y1], _ =>
   have f0 : DataW.trod enc Tryz.prog W base (fun _ => true) held k 22 [a0] = some y0 := by simpa [k22] using hf 0 _ rfl
   have f1 : DataW.trod enc Tryz.prog W base (fun _ => true) held k 23 [a1] = some y1 := by simpa [k23] using hf 1 _ rfl
   obtain ⟨v0, L0, e0, h0, m0⟩ := groups_rowsS f0 (hw.field Tryz.underlying25 (j := 0) rfl rfl); obtain ⟨v1, L1, e1, h1, m1⟩ := confs_rowsW f1 (hw.field Tryz.underlying25 (j := 1) rfl rfl); simp at e0 e1; subst e0 e1; exact ⟨L0, L1, _, _, rfl, h0, m0, h1, m1⟩
end
theorem typed_argW {H : Type} {enc : TypeId × Value → H} {W : World} {base b0 : Nat} {held : Bool} {v : Value} {d : DataW H} {ps : List MemPlace} (h : DataW.Trod enc Tryz.prog W base (fun _ => true) held 31 v d ps) (hv : Value.okWide Tryz.prog W .any b0 31 v) (hw : WOk Tryz.prog 31 d) :
  ∃ (G : List Gp) (C : List Cf) (D : List Dt) (TM CT : List ByteArray) (VR : List Vr) (SG : List Ts) (pn : ByteArray) (ga ca da ta ka va sa : Option Addr) (gc cc dc tc kc vc sc : Nat) (stt : Int), v = (.agg #[.string pn, .slice ga G.length gc, .slice ca C.length cc, .slice da D.length dc, .slice ta TM.length tc, .slice ka CT.length kc, .slice va VR.length vc, .slice sa SG.length sc, .int .i64 stt]) ∧ TPl W G C D TM CT VR SG pn ga ca da ta ka va sa gc cc dc tc kc vc sc stt ∧ (∀ s ∈ SG, 0 ≤ s.green ∧ s.green < 18446744073709551616) ∧ D.length ≤ 3518437208780 ∧ TM.length ≤ 8796093022100 ∧ CT.length ≤ 8796093022100 ∧ VR.length ≤ 5864062014700 ∧ SG.length ≤ 1099511627744 ∧ ∀ (i : Nat) (h : i < C.length), C[i].ok := by
 obtain ⟨cs, rfl, _⟩ := okWide_struct Tryz.underlying31 hv
 obtain ⟨fuel, hf0⟩ := h
 obtain ⟨xs, k, _, hy, hl, hlen, hf⟩ := DataW.trod_struct Tryz.underlying31 hf0
 injection hy with hd hp
 subst hd
 rw [k31] at hl
 simp only [Value.cells] at hl hf
 obtain ⟨cs⟩ := cs
 simp only at hl hf
 match cs, hl, xs, hlen with
 | [a0, a1, a2, a3, a4, a5, a6, a7, a8], _, [y0, y1, y2, y3, y4, y5, y6, y7], _ =>
   have f0 : DataW.trod enc Tryz.prog W base (fun _ => true) held k 9 [a0] = some y0 := by simpa [k9] using hf 0 _ rfl
   have f1 : DataW.trod enc Tryz.prog W base (fun _ => true) held k 25 [a1, a2] = some y1 := by simpa [k25] using hf 1 _ rfl
   have f2 : DataW.trod enc Tryz.prog W base (fun _ => true) held k 26 [a3] = some y2 := by simpa [k26] using hf 2 _ rfl
   have f3 : DataW.trod enc Tryz.prog W base (fun _ => true) held k 27 [a4] = some y3 := by simpa [k27] using hf 3 _ rfl
   have f4 : DataW.trod enc Tryz.prog W base (fun _ => true) held k 27 [a5] = some y4 := by simpa [k27] using hf 4 _ rfl
   have f5 : DataW.trod enc Tryz.prog W base (fun _ => true) held k 28 [a6] = some y5 := by simpa [k28] using hf 5 _ rfl
   have f6 : DataW.trod enc Tryz.prog W base (fun _ => true) held k 29 [a7] = some y6 := by simpa [k29] using hf 6 _ rfl
   have f7 : DataW.trod enc Tryz.prog W base (fun _ => true) held k 3 [a8] = some y7 := by simpa [k3] using hf 7 _ rfl
   obtain ⟨s0, e0, d0, _⟩ := DataW.trod_string Tryz.underlying9 f0; have w0 := hw.field Tryz.underlying31 (j := 0) (d := y0.1) rfl rfl; rw [d0] at w0; obtain ⟨G, C, vg, vc, e1, hG, mG, hC, mC⟩ := tabs_openW f1 (hw.field Tryz.underlying31 (j := 1) rfl rfl); obtain ⟨vd, D, e2, hD, mD⟩ := dets_rowsS f2 (hw.field Tryz.underlying31 (j := 2) rfl rfl); obtain ⟨vt, TM, e3, hT, mT⟩ := texts_rowsS f3 (hw.field Tryz.underlying31 (j := 3) rfl rfl); obtain ⟨vk, CT, e4, hK, mK⟩ := texts_rowsS f4 (hw.field Tryz.underlying31 (j := 4) rfl rfl); obtain ⟨vv, VR, e5, hV, mV⟩ := vars_rowsS f5 (hw.field Tryz.underlying31 (j := 5) rfl rfl); obtain ⟨vs, SG, e6, hS, mS⟩ := stages_rowsS f6 (hw.field Tryz.underlying31 (j := 6) rfl rfl); obtain ⟨stt, e7, _⟩ := DataW.trod_int Tryz.underlying3 f7; simp at e0 e1 e2 e3 e4 e5 e6 e7; obtain ⟨rfl, rfl⟩ := e1; subst e0 e2 e3 e4 e5 e6 e7; obtain ⟨fG, lG⟩ := fl_rowsW (cs := Gp.cs) hG; obtain ⟨fC, lC⟩ := fl_rowsW (cs := Cf.cs) hC; obtain ⟨fD, lD⟩ := fl_rowsW (cs := Dt.cs) hD; obtain ⟨fT, lT⟩ := fl_rowsW (cs := txC) hT; obtain ⟨fK, lK⟩ := fl_rowsW (cs := txC) hK; obtain ⟨fV, lV⟩ := fl_rowsW (cs := Vr.cs) hV; obtain ⟨ga, gc, rfl, -⟩ := fG.any; obtain ⟨ca, cc, rfl, -⟩ := fC.any; obtain ⟨da, dc, rfl, -⟩ := fD.any; obtain ⟨ta, tc, rfl, -⟩ := fT.any; obtain ⟨ka, kc, rfl, -⟩ := fK.any; obtain ⟨va, vc', rfl, -⟩ := fV.any; obtain ⟨sa, sc, rfl, lS, -⟩ := Rows.any hS; refine ⟨G, C, D, TM, CT, VR, SG, s0, ga, ca, da, ta, ka, va, sa, gc, cc, dc, tc, kc, vc', sc, stt, rfl, ⟨fG, fC, fD, fT, fK, fV, Rows.mx (by decide) hS, lG, lC, by omega, by omega, by omega, by omega, by omega, ?_, sm_of w0, fun s hs => (mS s hs).2.1⟩, fun s hs => (mS s hs).2.2, lD, lT, lK, lV, lS, fun i hi => mC _ (List.getElem_mem hi)⟩; intro s hs; unfold nmsL at hs; simp only [List.mem_append, List.mem_map] at hs; rcases hs with ((((⟨x, hx, rfl⟩ | ⟨x, hx, rfl⟩) | hx) | hx) | ⟨x, hx, rfl⟩) | ⟨x, hx, rfl⟩
   ·exact mG x hx
   ·exact mD x hx
   ·exact mT s hx
   ·exact mK s hx
   ·exact mV x hx
   ·exact (mS x hx).1
open Go.RowKit
theorem RI.uniq {n st : Nat} {N : Nat → List Nat} {S T : List Bool} (h : RI n st N S []) (k : RI n st N T []) : S = T :=
 h.eq k.len k.beg k.le (fun i hi => (k.cl i hi).elim (fun e => by cases e) id)
end Go.Proofs.YtjfieclmagbfbaaGreatDoor
