import Derived.Test.YthjdflcakngpiaaDoorRmD
import Derived.Test.YthjdflcakngpiaaDoorSmsL
namespace Go.Proofs.YthjdflcakngpiaaDoor
open Go.RowKit
set_option linter.unusedVariables false

def marksD : List Value := [.int .i64 77, .int .i64 0, .int .i64 0, .string ⟨#[]⟩, .string ⟨#[]⟩, .int .i64 0, .int .i32 0, .int .i32 0, .int .i32 0, .slice none 0 0, .slice none 0 0, .slice none 0 0, .slice none 0 0, .slice none 0 0, .slice none 0 0, .int .i64 77, .int .i64 0, .int .i64 0, .string ⟨#[]⟩, .string ⟨#[]⟩, .int .i64 0, .int .i32 0, .int .i32 0, .int .i32 0, .slice none 0 0, .slice none 0 0, .slice none 0 0, .slice none 0 0, .slice none 0 0, .slice none 0 0]
theorem RmI.fin {B M : Nat} {pn : ByteArray} {vd : Value} {L : List Dc} {lo hi : Nat → Nat} {wr F : World} {xs : List Value} {vE vG vL vN : Value} {gX cX b1 : Nat}
    (I : RmI B M pn vd L lo hi L.length wr xs vE vG vL vN) (hL : L.length ≤ 628292358710) (OF : Only (fun q => vd.ownBlock = some q ∨ q = M ∨ q = M + 1 ∨ q = b1) wr F) (hb1 : b1 < B) (hBM : b1 < M + 2) (hvd : ∀ g, vd.ownBlock = some g → g < M)
    (fX : F.ownsRow B 53 15 (.slice (some ⟨gX, 0, none⟩) (L.length + 2) cX) (L.length + 2) (xs ++ marksD)) (R : Has F (M + 1) #[.slice (some ⟨gX, 0, none⟩) (L.length + 2) cX, vE, vG, vL, vN]) :
    Dcs (fun _ => True) F (.slice (some ⟨gX, 0, none⟩) L.length cX) L ∧ RmX F (M + 1) := by
  have mv : Mv (Av B M vd vE vG vL vN lo hi L.length L.length) wr (fun _ => True) F := by
    refine Mv.only OF ?_
    rintro q hq ⟨a0, a1, a2, a3, _⟩
    refine ⟨?_, trivial⟩
    rintro (h | h | h | h)
    · exact a1 h
    · exact a2 h
    · exact a3 h
    · omega
  have row : ∀ {e : Nat} {v : Value} {n : Nat} {ys : List Value}, wr.ownsRow (M + 2) e 1 v n ys → F.ownsRow (M + 2) e 1 v n ys := fun h => own_only2 h OF (fun q hq hs => by
    have h1 := (own_lt h q hq).1
    rcases hs with hs | hs | hs | hs
    · have := hvd q hs; omega
    · omega
    · omega
    · omega)
  obtain ⟨yE, Es, lEs, rE, elE⟩ := I.rowE
  obtain ⟨yG, Gs, lGs, rG, elG⟩ := I.rowG
  obtain ⟨yN, Ns, lNs, rN, elN⟩ := I.rowN
  obtain ⟨yL, Ls, lLs, rL, elL⟩ := I.rowL
  have els : Els 15 DcR (Av B M vd vE vG vL vN lo hi L.length L.length) wr xs L := ⟨I.own.1, fun i h => I.done i h h⟩
  refine ⟨Els.cut (m := 1) (Els.mv (mx := 0) els (fun _ _ h => h.mv mv)) fX trivial hL, _, vE, vG, vL, vN, Es, Gs, Ns, Ls, R, by omega, by omega, ?_, ?_, ?_, ?_, L.length, MkR.of fX I.own.1 rfl rfl trivial (by omega)⟩
  · exact Els.owned (elE.weak rmvME mv) (by rw [lEs]; exact row rE) (fun _ _ => trivial) (by omega)
  · exact Els.owned (elG.weak rmvMG mv) (by rw [lGs]; exact row rG) (fun _ _ => trivial) (by omega)
  · exact Els.owned (elN.weak rmvMN mv) (by rw [lNs]; exact row rN) (fun _ _ => trivial) (by omega)
  · exact Els.owned (elL.weak rmvML mv) (by rw [lLs]; exact row rL) (fun _ _ => trivial) (by omega)
end Go.Proofs.YthjdflcakngpiaaDoor
