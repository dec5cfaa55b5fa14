import Derived.Test.YtnicolaphmffkaaGreatDoorBnD
namespace Go.Proofs.YtnicolaphmffkaaGreatDoor
set_option linter.unusedSimpArgs false
open Go.RowKit
set_option linter.unusedVariables false

theorem clash_zero (n : Nat) : ∀ C : List Cf, clashF n 0 C = (-1, -1, false)
 | [] => rfl
 | c :: cs => by
   have e : hit n 0 c = false := by simp [hit, hasN]
   unfold clashF
   rw [e, if_neg (by decide)]
   exact clash_zero n cs
theorem ck_sn (n : Nat) (C : List Cf) (SG : List Ts) (k : Nat) (h : k < SG.length) : sn (ckL n C SG) k = (clashF n (gOf SG (k : Int)) C).2.2 := by
 rw [sn_get (by simpa [ckL] using h)]
 unfold gOf
 rw [if_neg (by omega), Int.toNat_natCast, List.getElem?_eq_getElem h]
 simp [ckL]
theorem lp_eq {G : List Gp} {C : List Cf} {SG : List Ts} (gr : gridB G C = true) (x y : Int) : lpA G C SG x y = mvF G C (gOf SG x) (gOf SG y) true G 0 0 := by
 have h64 : G.length ≤ 64 := by simp [gridB] at gr; exact gr.1
 have hA : ∀ k, k < G.length → hasN (2 ^ min G.length 64 - 1) (k : Int) = (true || loses (gOf SG x) (gOf SG y) k) := fun k hk => by
  have e : min G.length 64 = G.length := by omega
  simp only [hasN, Nat.testBit_two_pow_sub_one, Bool.true_or, e]
  simp; omega
 have hw : ∀ k, k < G.length → wsA G C k = wF C (gOf SG x) (gOf SG y) true (k : Int) G 0 0 := fun k hk => (wF_wA C (gOf SG x) (gOf SG y) (2 ^ min G.length 64 - 1) true (k : Int) G 0 0 (fun j _ hj => hA j (by omega))).symm
 have e := thF_mvF (ws := wsA G C) (F := gOf SG x) (T := gOf SG y) gr hw (fun k hk => (wA_max C (2 ^ min G.length 64 - 1) (k : Int) G 0 0).1) G.length 0 0 (by omega) (by omega)
 simp only [List.drop_zero] at e
 exact e
theorem mvF_ge (G : List Gp) (C : List Cf) (F T : Nat) (all : Bool) : ∀ (m k : Nat) (n : Int), k + m = G.length → n ≤ mvF G C F T all (G.drop k) k n
 | 0, k, n, hk => by rw [mvF_end _ _ _ _ _ _ _ (by omega)]; exact Int.le_refl _
 | m + 1, k, n, hk => by
   rw [mvF_step _ _ _ _ _ _ _ (by omega : k < G.length)]
   refine Int.le_trans ?_ (mvF_ge G C F T all m (k + 1) _ (by omega))
   split <;> omega
theorem lp_pos {G : List Gp} {C : List Cf} {SG : List Ts} (gr : gridB G C = true) (x y : Int) : 0 ≤ lpA G C SG x y := by
 rw [lp_eq gr]
 have := mvF_ge G C (gOf SG x) (gOf SG y) true G.length 0 0 (by omega)
 simpa using this
theorem span_eq {G : List Gp} {C : List Cf} {SG : List Ts} (gr : gridB G C = true) {x : Int} {t : Nat} (hx : x = -1 ∨ ∃ k : Nat, x = (k : Int) ∧ k < SG.length) (ht : t < SG.length) : spanV G C (gOf SG x) (gOf SG (t : Int)) true = if ckM (ckL G.length C SG) x t = true then (0, 60) else (lpA G C SG x (t : Int), 0) := by
 have e1 : (clashF G.length (gOf SG x) C).2.2 = (decide (x ≠ -1) && sn (ckL G.length C SG) x.toNat) := by
  rcases hx with rfl | ⟨k, rfl, hk⟩
  ·simp [gOf, clash_zero]
  ·rw [Int.toNat_natCast, ck_sn _ _ _ _ hk]
   have : ¬ (k : Int) = -1 := by omega
   simp [this]
 unfold spanV ckM
 rw [gr, if_pos rfl, e1, ← ck_sn _ _ _ _ ht, lp_eq gr]
end Go.Proofs.YtnicolaphmffkaaGreatDoor
