import Derived.Test.YtnicolaphmffkaaGreatDoorMaI
import Derived.Test.YtnicolaphmffkaaGreatDoorMaL
namespace Go.Proofs.YtnicolaphmffkaaGreatDoor
open Go.RowKit
set_option linter.unusedVariables false
set_option linter.unusedSimpArgs false

/-- A sound plan: its parts that a walk over its stages wants. -/
theorem sd_ways {G : List Gp} {C : List Cf} {D : List Dt} {TM CT : List ByteArray} {VR : List Vr} {SG : List Ts} {pn : ByteArray} {stt : Int} (h : sdB G C D TM CT VR SG pn stt = true) : SG.length ≤ 256 ∧ Ways SG ∧ 0 ≤ stt ∧ stt < (SG.length : Int) := by
 unfold sdB plB at h
 simp only [Bool.and_eq_true] at h
 obtain ⟨_, h2, _, _, h5, h6⟩ := h
 have h5' := h5
 simp only [decide_eq_true_eq] at h5'
 refine ⟨(ct_few h2).2.2.2.2, ?_, h5'.1, h5'.2⟩
 clear h2 h5 h5'
 have key : ∀ (L : List Ts) (n i : Nat) (last : Int), sgsZ ⟨G.length, D.length, TM.length, CT.length, VR.length⟩ n i last L = true → ∀ s ∈ L, ∀ x ∈ s.nexts, 0 ≤ x.dst ∧ x.dst < (n : Int) := by
  intro L
  induction L with
  | nil => intro n i last _ s hs; cases hs
  | cons y L ih =>
    intro n i last h s hs x hx
    unfold sgsZ at h
    rw [Bool.and_eq_true] at h
    rcases List.mem_cons.1 hs with rfl | hs
    ·have h1 := h.1
     unfold sgZ at h1
     simp only [Bool.and_eq_true] at h1
     have h2 := List.all_eq_true.1 h1.2.2 x hx
     unfold nxZ plB at h2
     simp only [Bool.and_eq_true, decide_eq_true_eq] at h2
     exact h2.1
    ·exact ih n (i + 1) y.id h.2 s hs x hx
 exact fun s hs x hx => key SG SG.length 0 (-1) h6 s hs x hx
theorem TPl.below {w w' : World} {G : List Gp} {C : List Cf} {D : List Dt} {TM CT : List ByteArray} {VR : List Vr} {SG : List Ts} {pn : ByteArray} {ga ca da ta ka va sa : Option Addr} {gc cc dc tc kc vc sc : Nat} {stt : Int} (h : TPl w G C D TM CT VR SG pn ga ca da ta ka va sa gc cc dc tc kc vc sc stt) (hb : Below w.heap.size w w') : TPl w' G C D TM CT VR SG pn ga ca da ta ka va sa gc cc dc tc kc vc sc stt :=
 ⟨h.hG.below hb, h.hF.below hb, h.hD.below hb, h.hT.below hb, h.hC.below hb, h.hV.below hb, Tss.below h.hS hb, h.lG, h.lF, h.lD, h.lT, h.lC, h.lV, h.lS, h.hm, h.hp, h.hr⟩
end Go.Proofs.YtnicolaphmffkaaGreatDoor
