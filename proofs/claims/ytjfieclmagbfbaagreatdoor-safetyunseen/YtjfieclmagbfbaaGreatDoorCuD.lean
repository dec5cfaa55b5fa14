import Derived.Test.YtjfieclmagbfbaaGreatDoorJCkR
import Derived.Test.YtjfieclmagbfbaaGreatDoorSnW
set_option linter.unusedSimpArgs false
set_option linter.unusedVariables false
set_option maxRecDepth 100000
set_option maxHeartbeats 8000000
namespace Go.Proofs.YtjfieclmagbfbaaGreatDoor
open Go.RowKit
theorem sound9 (G : List Gp) (C : List Cf) (D : List Dt) (TM CT : List ByteArray) (VR : List Vr) (SG : List Ts) (pn : ByteArray) (ga ca da ta ka va sa : Option Addr) (gc cc dc tc kc vc sc : Nat) (stt : Int) (X : World) (h : TPl X G C D TM CT VR SG pn ga ca da ta ka va sa gc cc dc tc kc vc sc stt) (tb : Tb X) (hgr : ∀ s ∈ SG, 0 ≤ s.green ∧ s.green < 18446744073709551616) :
  Calls Tryz.prog 9 #[(.agg #[.string pn, .slice ga G.length gc, .slice ca C.length cc, .slice da D.length dc, .slice ta TM.length tc, .slice ka CT.length kc, .slice va VR.length vc, .slice sa SG.length sc, .int .i64 stt])] X fun e w' => e = .returned (.bool (sdB G C D TM CT VR SG pn stt)) ∧ Below X.heap.size X w' :=
 refSound_of G C D TM CT VR SG pn ga ca da ta ka va sa gc cc dc tc kc vc sc stt X h tb (fun Y hY lG lS => rStages_any G C D TM CT VR SG pn ga ca da ta ka va sa gc cc dc tc kc vc sc stt Y (Tss.below h.hS hY) lG lS h.hr hgr)
theorem fl_truths {w : World} {B : Nat} {v : Value} {S : List Bool} (h : w.ownsRow B 4 1 v S.length (vB S)) : Fl 1 bC w v S := by
 have e : ∀ T : List Bool, vB T = cellsF bC T := fun T => by
  induction T with
  | nil => rfl
  | cons x T ih => show _ :: vB T = _; rw [ih]; rfl
 rw [e] at h
 exact fl_ofK bC_len h
theorem four (G : List Gp) (C : List Cf) (D : List Dt) (TM CT : List ByteArray) (VR : List Vr) (SG : List Ts) (pn : ByteArray) (ga ca da ta ka va sa : Option Addr) (gc cc dc tc kc vc sc : Nat) (stt : Int) (n : Nat) (hn : SG.length = n) (X : World) (h : TPl X G C D TM CT VR SG pn ga ca da ta ka va sa gc cc dc tc kc vc sc stt) (tb : Tb X) (nt : Ndt X) (cok : ∀ (i : Nat) (h : i < C.length), C[i].ok) (hgr : ∀ s ∈ SG, 0 ≤ s.green ∧ s.green < 18446744073709551616) :
  ∀ Y : World, Below X.heap.size X Y → (Calls Tryz.prog 9 #[(.agg #[.string pn, .slice ga G.length gc, .slice ca C.length cc, .slice da D.length dc, .slice ta TM.length tc, .slice ka CT.length kc, .slice va VR.length vc, .slice sa n sc, .int .i64 stt])] Y fun e w' => e = .returned (.bool (sdB G C D TM CT VR SG pn stt)) ∧ Below Y.heap.size Y w') ∧ (Calls Tryz.prog 12 #[(.agg #[.string pn, .slice ga G.length gc, .slice ca C.length cc, .slice da D.length dc, .slice ta TM.length tc, .slice ka CT.length kc, .slice va VR.length vc, .slice sa n sc, .int .i64 stt])] Y fun e w' => ReP (sdB G C D TM CT VR SG pn stt) SG stt Y e w') ∧ (Calls Tryz.prog 8 #[(.agg #[.string pn, .slice ga G.length gc, .slice ca C.length cc, .slice da D.length dc, .slice ta TM.length tc, .slice ka CT.length kc, .slice va VR.length vc, .slice sa n sc, .int .i64 stt])] Y fun e w' => ChP (sdB G C D TM CT VR SG pn stt) G C SG stt Y e w') ∧ (Calls Tryz.prog 14 #[(.agg #[.string pn, .slice ga G.length gc, .slice ca C.length cc, .slice da D.length dc, .slice ta TM.length tc, .slice ka CT.length kc, .slice va VR.length vc, .slice sa n sc, .int .i64 stt])] Y fun e w' => BoP (sdB G C D TM CT VR SG pn stt) G C SG stt Y e w') := by
 subst hn
 exact fun Y hY => ⟨sound9 G C D TM CT VR SG pn ga ca da ta ka va sa gc cc dc tc kc vc sc stt Y (h.below hY) (tb.below hY) hgr, reach_any G C D TM CT VR SG pn ga ca da ta ka va sa gc cc dc tc kc vc sc stt Y (h.below hY) (tb.wt.be hY), check_any G C D TM CT VR SG pn ga ca da ta ka va sa gc cc dc tc kc vc sc stt Y (h.below hY) (tb.wt.be hY) (nt.be hY) cok hgr, bound_any G C D TM CT VR SG pn ga ca da ta ka va sa gc cc dc tc kc vc sc stt Y (h.below hY) (tb.wt.be hY) cok hgr⟩
theorem next_row {w : World} {g b1 b2 : Nat} {dd : Int} (HN : Has w b1 #[.int .i64 2, .int .i32 1, .string ⟨#[]⟩, .int .i64 0, .int .i64 0]) (HX : Has w b2 #[.int .i64 dd, .slice (some ⟨b1, 0, none⟩) 1 1]) (h1 : b1 ≠ g) (h2 : b2 ≠ g) : Tns (fun b => b ≠ g) w (.slice (some ⟨b2, 0, none⟩) 1 1) [⟨dd, [⟨2, 1, ⟨#[]⟩, 0, 0⟩]⟩] := by
 refine .inr ⟨⟨b2, 0, none⟩, 1, rfl, Nat.le_refl _, (by show 1 ≤ _; omega), .inr ⟨rfl, h2, HX.1, fun i hi => ?_⟩⟩
 obtain rfl : i = 0 := by have : i < 1 := hi; omega
 refine ⟨[.int .i64 dd, .slice (some ⟨b1, 0, none⟩) 1 1], rfl, ⟨_, rfl, .inr ⟨⟨b1, 0, none⟩, 1, rfl, Nat.le_refl _, (by show 1 ≤ _; omega), .inr ⟨rfl, h1, HN.1, fun k hk => ?_⟩⟩⟩, fun j u hu => ?_⟩
 ·obtain rfl : k = 0 := by have : k < 1 := hk; omega
  refine ⟨[.int .i64 2, .int .i32 1, .string ⟨#[]⟩, .int .i64 0, .int .i64 0], rfl, rfl, fun j u hu => ?_⟩; show w.cell? ⟨b1, 0 + 0 * 5 + j, none⟩ = some u; rw [show 0 + 0 * 5 + j = j by omega, HN.2.1 j, ← hu]; simp
 ·show w.cell? ⟨b2, 0 + 0 * 2 + j, none⟩ = some u
  rw [show 0 + 0 * 2 + j = j by omega, HX.2.1 j, ← hu]; simp
theorem bare_ok (x : Ts) (nx : List Tn) (h : ∀ y ∈ nx, ∀ z ∈ y.wh, vOk z.val) : (x.bare nx).ok := ⟨fun _ h => (by cases h), fun _ h => (by cases h), fun _ h => (by cases h), h⟩
theorem struck (G : List Gp) (C : List Cf) (D : List Dt) (TM CT : List ByteArray) (VR : List Vr) (SG : List Ts) (pn : ByteArray) (ga ca da ta ka va sa : Option Addr) (gc cc dc tc kc vc sc : Nat) (stt : Int) {B g sd p : Nat} {W W' : World} {a1 a2 a3 a4 a5 a6 : Option Addr} {c1 c2 c3 c4 c5 c6 : Nat} {Ls : List Sv} {R : List Bool} (nx : List Tn) (na : Option Addr) (nc : Nat)
  (ut : UT B g sd W [⟨117, 2, .slice a6 VR.length c6, VR.length, cellsF Vr.cs VR⟩, ⟨9, 1, .slice a5 CT.length c5, CT.length, cellsF txC CT⟩, ⟨9, 1, .slice a4 TM.length c4, TM.length, cellsF txC TM⟩, ⟨89, 4, .slice a3 D.length c3, D.length, cellsF Dt.cs D⟩, ⟨75, 4, .slice a2 C.length c2, C.length, cellsF Cf.cs C⟩, ⟨73, 5, .slice a1 G.length c1, G.length, cellsF Gp.cs G⟩] Ls)
  (hP : TPl W' G C D TM CT VR SG pn ga ca da ta ka va sa gc cc dc tc kc vc sc stt) (hLx : Ls.map (·.x) = SG) (hp : p < SG.length) (hR : sn R p = false) (hgr : ∀ s ∈ SG, 0 ≤ s.green ∧ s.green < 18446744073709551616) (ho : Only (fun q => q = g) W W')
  (hw : W'.ownsRow B 51 7 (.slice (some ⟨g, 0, none⟩) SG.length sd) SG.length (((((cellsF Sv.cs Ls).set (p * 7 + 3) (.slice none 0 0)).set (p * 7 + 4) (.slice none 0 0)).set (p * 7 + 5) (.slice none 0 0)).set (p * 7 + 6) (.slice na nx.length nc)))
  (hT : Tns (fun b => b ≠ g) W' (.slice na nx.length nc) nx) (hv : ∀ y ∈ nx, ∀ z ∈ y.wh, vOk z.val) :
  ∃ T : List Ts, T.length = SG.length ∧ TPl W' G C D TM CT VR T pn a1 a2 a3 a4 a5 a6 (some ⟨g, 0, none⟩) c1 c2 c3 c4 c5 c6 sd stt ∧ Sim R 0 SG T ∧ (∀ s ∈ T, 0 ≤ s.green ∧ s.green < 18446744073709551616) := by
 have hLl : Ls.length = SG.length := by rw [← hLx, List.length_map]
 have hp' : p < Ls.length := by omega
 have hs := List.getElem?_eq_getElem hp'
 have hx : SG[p] = Ls[p].x := by simp only [← hLx, List.getElem_map]
 rw [← hLl] at hw
 have u2 := ut.bare hs ho hw hT
 have em : (Ls.set p (Ls[p].bare na nc nx)).map (·.x) = SG.set p (SG[p].bare nx) := by rw [List.map_set, hLx, hx]; rfl
 have mem : ∀ s ∈ SG.set p (SG[p].bare nx), s ∈ SG ∨ s = SG[p].bare nx := fun s h => List.mem_or_eq_of_mem_set h
 refine ⟨SG.set p (SG[p].bare nx), List.length_set .., u2.tpl hP em (List.length_set ..) (fun e => ?_) (set_map _ (fun x hx2 => ?_)) (fun s h => ?_), Sim.set SG 0 p hp rfl (by rw [Nat.zero_add]; exact hR), fun s h => ?_⟩
 ·have := congrArg List.length e
  simp at this; rw [this] at hp; exact absurd hp (by simp)
 ·rw [List.getElem?_eq_getElem hp] at hx2
  injection hx2 with hx2
  subst hx2
  rfl
 ·rcases mem s h with h | rfl
  ·exact hP.hr s h
  ·exact bare_ok _ _ hv
 ·rcases mem s h with h | rfl
  ·exact hgr s h
  ·exact hgr SG[p] (List.getElem_mem hp)
end Go.Proofs.YtjfieclmagbfbaaGreatDoor
