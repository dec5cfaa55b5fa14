import Derived.Test.YthjdflcakngpiaaDoorLawB
import Derived.Test.YthjdflcakngpiaaDoorKpt
import Derived.Deep.RegionHeld3
namespace Go.Proofs.YthjdflcakngpiaaDoor
open Go.RowKit
set_option linter.unusedVariables false

theorem RmR.mv {S S' : Nat → Prop} {w w' : World} {b : Nat} {vD vE vG vL vN : Value} {E G N Ls : List Nat} (h : RmR S w b vD vE vG vL vN E G N Ls) (hb : Below w.heap.size w w') (hS : ∀ k, k < w.heap.size → S k → S' k) : RmR S' w' b vD vE vG vL vN E G N Ls := by
  have hm : Mv S w S' w' := ⟨hb.size, fun k hk hs => ⟨hb.block k hk, hS k hk hs⟩⟩
  exact ⟨h.has.below hb, h.lenG, h.lenN, Rows.mv h.rE hm (fun _ _ x => MkR.mv x hm), Rows.mv h.rG hm (fun _ _ x => MkR.mv x hm), Rows.mv h.rN hm (fun _ _ x => MkR.mv x hm), Rows.mv h.rL hm (fun _ _ x => MkR.mv x hm), h.rD.imp fun _ x => MkR.mv x hm⟩
/-- The room, whatever lies in it. -/
def RmX (w : World) (b : Nat) : Prop := ∃ vD vE vG vL vN E G N Ls, RmR (fun _ => True) w b vD vE vG vL vN E G N Ls
theorem RmX.below {w w' : World} {b : Nat} (h : RmX w b) (hb : Below w.heap.size w w') : RmX w' b := by
  obtain ⟨vD, vE, vG, vL, vN, E, G, N, Ls, h⟩ := h
  exact ⟨vD, vE, vG, vL, vN, E, G, N, Ls, h.mv hb (fun _ _ _ => trivial)⟩
theorem kept_x (w : World) (b : Nat) (h : RmX w b) : Calls Tryd.prog 11 #[.pointer (some ⟨b, 0, none⟩)] w fun e w' => e = .returned (.bool true) ∧ Below w.heap.size w w' := by
  obtain ⟨vD, vE, vG, vL, vN, E, G, N, Ls, h⟩ := h
  exact kept_any _ _ _ _ _ _ _ _ _ _ _ _ h
/-- What roomyPlan answers. -/
def RoomyOk : Prop := ∀ (p : Pl) (u : Value) (S1 : Nat → Prop) (w : World), PlR S1 w u p → Calls Tryd.prog 4 #[u] w fun e w' => (∃ vd b, e = .returned (.tuple #[.agg #[.string p.name, vd], .pointer (some ⟨b, 0, none⟩)]) ∧ Dcs (fun _ => True) w' vd p.decls ∧ RmX w' b) ∧ Below w.heap.size w w'
theorem Dcs.any {S : Nat → Prop} {w : World} {v : Value} {L : List Dc} (h : Dcs S w v L) : Dcs (fun _ => True) w v L := h.mv (Mv.weak fun _ _ _ => trivial)

end Go.Proofs.YthjdflcakngpiaaDoor
