import Derived.Test.YtkeoebllblbkgaaGreatDoorTpL
import Derived.Test.YtkeoebllblbkgaaGreatDoorTeF
namespace Go.Proofs.YtkeoebllblbkgaaGreatDoor
open Go.RowKit
set_option linter.unusedVariables false
set_option linter.unusedSimpArgs false

theorem rm_nm {t : Tt} {Ls : List Rm} (hL : Ls.map (·.x) = t.D) : nmA (Ls.map Rm.dk) = nmA t.D := by
  funext x
  unfold nmA
  rw [← hL, List.getElem?_map, List.getElem?_map]
  cases Ls[x.toNat]? <;> rfl
theorem rm_pr {t : Tt} {Ls : List Rm} (hL : Ls.map (·.x) = t.D) : prF (rmT t Ls) = prF t := by
  have h1 : (Ls.map Rm.dk).map dayF = t.D.map dayF := map_core hL (fun n r => lnF [[100, 97, 121], n.data.toList] ++ (r.map rowF).flatten)
  have h2 := rm_nm hL
  have h3 : nmL (Ls.map Rm.dk) = nmL t.D := by funext x; unfold nmL; rw [h2]
  have h4 : snF (Ls.map Rm.dk) = snF t.D := by funext x; unfold snF; rw [h3]
  have h5 : exF (Ls.map Rm.dk) = exF t.D := by funext x; unfold exF; rw [h3]
  have h6 : weF (rmT t Ls) = weF t := by
    unfold weF
    show lnF [_, Lib.join (t.wk.map (nmL (Ls.map Rm.dk))) [32]] = _
    rw [h3]
  show ((((hdF t ++ ((Ls.map Rm.dk).map dayF).flatten) ++ weF (rmT t Ls)) ++ (t.S.map (snF (Ls.map Rm.dk))).flatten) ++ (t.X.map (exF (Ls.map Rm.dk))).flatten) ++ (t.H.map shF).flatten = prF t
  rw [h1, h4, h5, h6]; rfl
/-- What a Print answers. -/
def prA (t : Tt) : ByteArray := if t.err = 0 then bs (prF t) else ⟨#[]⟩
theorem err_ge (t : Tt) : 0 ≤ t.err := by
  unfold Tt.err
  repeat' split
  all_goals omega
theorem rm_pa {t : Tt} {Ls : List Rm} (hL : Ls.map (·.x) = t.D) : prA (rmT t Ls) = prA t := by
  unfold prA
  rw [rm_err hL, rm_pr hL]
theorem print_any (t : Tt) (aD aS aX aH : Option Addr) (cD cS cX cH : Nat) (w : World) (hR : TR w t (.slice aD t.D.length cD) (.slice aS t.S.length cS) (.slice aX t.X.length cX) (.slice aH t.H.length cH)) (hT : Mt w) (hP : Pw w) : Calls Tryz.prog 5 #[.agg #[.string t.nm, .slice aD t.D.length cD, .int .i64 t.w0, .int .i64 t.w1, .int .i64 t.w2, .int .i64 t.w3, .int .i64 t.w4, .int .i64 t.w5, .int .i64 t.w6, .slice aS t.S.length cS, .slice aX t.X.length cX, .slice aH t.H.length cH]] w fun e w' => e = .returned (.tuple #[.string (prA t), .int .i64 t.err]) ∧ Below w.heap.size w w' := by
  by_cases he : t.err = 0
  · have := print_ok t aD aS aX aH cD cS cX cH w hR he hT hP
    have e : prA t = bs (prF t) := by unfold prA; rw [if_pos he]
    rw [e, he]; exact this
  · have e : prA t = ⟨#[]⟩ := by unfold prA; rw [if_neg he]
    rw [e]; exact print_bad t aD aS aX aH cD cS cX cH w hR he (err_ge t)
theorem refPrint_any (t : Tt) (aD aS aX aH : Option Addr) (cD cS cX cH : Nat) (w : World) (hR : TR w t (.slice aD t.D.length cD) (.slice aS t.S.length cS) (.slice aX t.X.length cX) (.slice aH t.H.length cH)) : Calls Tryz.prog 6 #[.agg #[.string t.nm, .slice aD t.D.length cD, .int .i64 t.w0, .int .i64 t.w1, .int .i64 t.w2, .int .i64 t.w3, .int .i64 t.w4, .int .i64 t.w5, .int .i64 t.w6, .slice aS t.S.length cS, .slice aX t.X.length cX, .slice aH t.H.length cH]] w fun e w' => e = .returned (.tuple #[.string (prA t), .int .i64 t.err]) ∧ Below w.heap.size w w' := by
  by_cases he : t.err = 0
  · have := refPrint_ok t aD aS aX aH cD cS cX cH w hR he
    have e : prA t = bs (prF t) := by unfold prA; rw [if_pos he]
    rw [e, he]; exact this
  · have e : prA t = ⟨#[]⟩ := by unfold prA; rw [if_neg he]
    rw [e]; exact refPrint_bad t aD aS aX aH cD cS cX cH w hR he
end Go.Proofs.YtkeoebllblbkgaaGreatDoor
