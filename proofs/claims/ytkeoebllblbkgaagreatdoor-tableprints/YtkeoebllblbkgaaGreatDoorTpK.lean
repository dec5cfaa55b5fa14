import Derived.Test.YtkeoebllblbkgaaGreatDoorTpJ
import Derived.Test.YtkeoebllblbkgaaGreatDoorTcH
namespace Go.Proofs.YtkeoebllblbkgaaGreatDoor
open Go.RowKit
set_option linter.unusedVariables false
set_option linter.unusedSimpArgs false

theorem ln2 (a b : List UInt8) : lnF [a, b] = a ++ ([32] ++ (b ++ [10])) := by unfold lnF; rw [Lib.join_cons]; simp [Lib.joinTail]
theorem ln3 (a b c : List UInt8) : lnF [a, b, c] = a ++ ([32] ++ (b ++ ([32] ++ (c ++ [10])))) := by unfold lnF; rw [Lib.join_cons]; simp [Lib.joinTail]
theorem ln4 (a b c d : List UInt8) : lnF [a, b, c, d] = a ++ ([32] ++ (b ++ ([32] ++ (c ++ ([32] ++ (d ++ [10])))))) := by unfold lnF; rw [Lib.join_cons]; simp [Lib.joinTail]
theorem ba_eq {x : ByteArray} {l : List UInt8} (h : x.data.toList = l) : x = bs l := by rw [← h, bs_list]
theorem day_bs (T : List UInt8) (n : ByteArray) : bs T ++ (⟨#[100, 97, 121, 32]⟩ : ByteArray) ++ n ++ (⟨#[10]⟩ : ByteArray) = bs (T ++ lnF [[100, 97, 121], n.data.toList]) := by
  apply ba_eq; rw [ln2]; unfold bs; simp
theorem row_bs1 (T c : List UInt8) : bs T ++ (⟨#[32, 32, 97, 116, 32]⟩ : ByteArray) ++ bs c ++ (⟨#[32, 102, 108, 97, 115, 104, 10]⟩ : ByteArray) = bs (T ++ lnF [[32, 32, 97, 116], c, slF (-1)]) := by
  apply ba_eq; rw [ln3, show slF (-1) = [102, 108, 97, 115, 104] from rfl]; unfold bs; simp
theorem row_bs2 (T c : List UInt8) (s : Int) (h : s ≠ -1) : bs T ++ (⟨#[32, 32, 97, 116, 32]⟩ : ByteArray) ++ bs c ++ (⟨#[32, 115, 108, 111, 116, 32]⟩ : ByteArray) ++ ti s ++ (⟨#[10]⟩ : ByteArray) = bs (T ++ lnF [[32, 32, 97, 116], c, slF s]) := by
  apply ba_eq; rw [ln3]; unfold slF ti bs; rw [if_neg h]; simp
theorem hd_bs (n : ByteArray) : (⟨#[116, 105, 109, 101, 116, 97, 98, 108, 101, 32]⟩ : ByteArray) ++ n ++ (⟨#[10]⟩ : ByteArray) = bs (lnF [[116, 105, 109, 101, 116, 97, 98, 108, 101], n.data.toList]) := by
  apply ba_eq; rw [ln2]; simp
theorem we_bs (T : List UInt8) (D : List Dk) (x : Int) (X : List Int) : bs T ++ (⟨#[119, 101, 101, 107]⟩ : ByteArray) ++ bs (wkF D (x :: X)) ++ (⟨#[10]⟩ : ByteArray) = bs (T ++ lnF [[119, 101, 101, 107], Lib.join ((x :: X).map (nmL D)) [32]]) := by
  apply ba_eq; rw [ln2, ← wk_join]; unfold bs; simp
theorem sn_bs (T a b : List UInt8) (D : List Dk) (x : Int) (X : List Int) : bs T ++ (⟨#[115, 101, 97, 115, 111, 110, 32]⟩ : ByteArray) ++ bs a ++ (⟨#[32]⟩ : ByteArray) ++ bs b ++ bs (wkF D (x :: X)) ++ (⟨#[10]⟩ : ByteArray) = bs (T ++ lnF [[115, 101, 97, 115, 111, 110], a, b, Lib.join ((x :: X).map (nmL D)) [32]]) := by
  apply ba_eq; rw [ln4, ← wk_join]; unfold bs; simp
theorem ex_bs (T a : List UInt8) (n : ByteArray) : bs T ++ (⟨#[111, 110, 32]⟩ : ByteArray) ++ bs a ++ (⟨#[32]⟩ : ByteArray) ++ n ++ (⟨#[10]⟩ : ByteArray) = bs (T ++ lnF [[111, 110], a, n.data.toList]) := by
  apply ba_eq; rw [ln3]; unfold bs; simp
theorem sh_bs (T a b c : List UInt8) (p q : ByteArray) (h : p ++ q = bs c) : bs T ++ (⟨#[115, 104, 105, 102, 116, 32]⟩ : ByteArray) ++ bs a ++ (⟨#[32]⟩ : ByteArray) ++ bs b ++ (⟨#[32]⟩ : ByteArray) ++ p ++ q ++ (⟨#[10]⟩ : ByteArray) = bs (T ++ lnF [[115, 104, 105, 102, 116], a, b, c]) := by
  have h2 : p.data.toList ++ q.data.toList = c := by have := congrArg (fun x => x.data.toList) h; simpa [bs] using this
  apply ba_eq; rw [ln4, ← h2]; unfold bs; simp
set_option maxRecDepth 100000 in
set_option maxHeartbeats 4000000 in
theorem refPrint_bad (t : Tt) (aD aS aX aH : Option Addr) (cD cS cX cH : Nat) (w : World) (hR : TR w t (.slice aD t.D.length cD) (.slice aS t.S.length cS) (.slice aX t.X.length cX) (.slice aH t.H.length cH)) (he : t.err ≠ 0) : Calls Tryz.prog 6 #[.agg #[.string t.nm, .slice aD t.D.length cD, .int .i64 t.w0, .int .i64 t.w1, .int .i64 t.w2, .int .i64 t.w3, .int .i64 t.w4, .int .i64 t.w5, .int .i64 t.w6, .slice aS t.S.length cS, .slice aX t.X.length cX, .slice aH t.H.length cH]] w fun e w' => e = .returned (.tuple #[.string ⟨#[]⟩, .int .i64 t.err]) ∧ Below w.heap.size w w' := by
  have hs := refSound_any t aD aS aX aH cD cS cX cH _ (hR.below (bel1 (o := .cells #[.string t.nm, .slice aD t.D.length cD, .int .i64 t.w0, .int .i64 t.w1, .int .i64 t.w2, .int .i64 t.w3, .int .i64 t.w4, .int .i64 t.w5, .int .i64 t.w6, .slice aS t.S.length cS, .slice aX t.X.length cX, .slice aH t.H.length cH] 28)))
  have he' : (t.err == 0) = false := by simp; exact he
  go_enter Tryz.func6, Tryz.ntmps6
  go_wp2_with (go_at_call 8; (with_reducible refine hs.mono ?_); rintro e w1 ⟨rfl, hb1⟩)
  go_ret2
  exact ⟨rfl, belT bel1 hb1⟩
end Go.Proofs.YtkeoebllblbkgaaGreatDoor
