import Derived.Test.YtbonmajnkbggcaaApM
namespace Go.Proofs.Ytbonmajnkbggcaa
open Go.RowKit
set_option linter.unusedVariables false

theorem beg_keep {G : List Gp} {C : List Cf} {A W : List Int} {M : Nat} {f0 : Nat → Int} {n j : Nat} (hj : j < n) : ∀ d, begF G C A W M f0 (n + d) j = begF G C A W M f0 n j := by
  intro d
  induction d with
  | zero => rfl
  | succ d ih =>
    show begF G C A W M f0 ((n + d) + 1) j = _
    conv => lhs; unfold begF
    by_cases hs : startB C A W M G.length (begF G C A W M f0 (n + d)) (n + d) = true
    · rw [if_pos hs]; unfold updF; rw [if_neg (by omega)]; exact ih
    · rw [if_neg hs]; exact ih
/-- Two junctions side by side. -/
structure Side (S T : List Gp) (Cs Ct : List Cf) : Prop where
  gs : gridB S Cs = true
  gt : gridB T Ct = true
def bothC (n : Nat) (Cs Ct : List Cf) : List Cf := Cs ++ Ct.map (Cf.up n)
theorem bothC_low {S T : List Gp} {Cs Ct : List Cf} (h : Side S T Cs Ct) : ∀ c ∈ Ct.map (Cf.up S.length), (S.length : Int) ≤ c.a ∧ c.a < c.b := by
  intro c hc
  obtain ⟨d, hd, rfl⟩ := List.mem_map.1 hc
  have := grid_cfm h.gt d hd
  unfold Cf.up
  dsimp only
  omega
theorem getD_low {S T : List Gp} {j : Nat} (h : j < S.length) : (S ++ T).getD j gp0 = S.getD j gp0 := by simp [List.getD_eq_getElem?_getD, List.getElem?_append_left h]
theorem getD_high {S T : List Gp} {j : Nat} : (S ++ T).getD (S.length + j) gp0 = T.getD j gp0 := by
  simp [List.getD_eq_getElem?_getD, List.getElem?_append_right]
/-- The heads of the whole are those of the one beside those of the other. -/
def Beside (n m : Nat) (h hs ht : F3) : Prop := (∀ j, j < n → h.a j = hs.a j ∧ h.i j = hs.i j ∧ h.w j = hs.w j) ∧ ∀ j, j < m → h.a (n + j) = ht.a j ∧ h.i (n + j) = ht.i j ∧ h.w (n + j) = ht.w j
theorem beside_next {S T : List Gp} {Cs Ct : List Cf} (sd : Side S T Cs Ct) {h hs ht : F3} {M Ma Mb : Nat} (hb : Beside S.length T.length h hs ht) (m1 : ∀ j, j < S.length → M.testBit j = Ma.testBit j) (m2 : ∀ j, j < T.length → M.testBit (S.length + j) = Mb.testBit j) :
    Beside S.length T.length (F3.next (S ++ T) (bothC S.length Cs Ct) h M) (F3.next S Cs hs Ma) (F3.next T Ct ht Mb) := by
  have ln : (S ++ T).length = S.length + T.length := List.length_append
  have g0 : ∀ (f : Nat → Int) j, j < S.length → (lst64 (S ++ T).length f).getD j 0 = f j := fun f j hj => lst_getD (by rw [ln]; omega)
  have g1 : ∀ (f : Nat → Int) j, j < T.length → (lst64 (S ++ T).length f).getD (S.length + j) 0 = f (S.length + j) := fun f j hj => lst_getD (by rw [ln]; omega)
  have low : ∀ j, j < S.length → (F3.next (S ++ T) (bothC S.length Cs Ct) h M).a j = (F3.next S Cs hs Ma).a j := fun j hj => by
    unfold F3.next
    show nxF _ _ _ _ _ M j = nxF S Cs _ _ _ Ma j
    unfold nxF
    rw [ln, beg_keep hj]
    refine beg_low (n := S.length) (D := Ct.map (Cf.up S.length)) rfl (by rw [ln]; omega) rfl (grid_cfm sd.gs) (bothC_low sd) (fun j hj => getD_low hj) (fun j hj => ?_) (fun j hj => ?_) m1 (fun j hj => ?_) S.length (Nat.le_refl _) j hj
    · rw [← ln, g0 _ j hj, lst_getD hj]; exact (hb.1 j hj).1
    · rw [← ln, g0 _ j hj, lst_getD hj]; exact (hb.1 j hj).2.2
    · unfold alF
      rw [← ln, g0 _ j hj, g0 _ j hj, lst_getD hj, lst_getD hj, getD_low hj, m1 j hj, (hb.1 j hj).1, (hb.1 j hj).2.1]
  have high : ∀ j, j < T.length → (F3.next (S ++ T) (bothC S.length Cs Ct) h M).a (S.length + j) = (F3.next T Ct ht Mb).a j := fun j hj => by
    unfold F3.next
    show nxF _ _ _ _ _ M (S.length + j) = nxF T Ct _ _ _ Mb j
    unfold nxF
    rw [ln]
    refine beg_high (n := S.length) (D := Cs) ln rfl (grid_cfm sd.gt) (grid_cfm sd.gs) (fun j hj => getD_high) (fun j hj => ?_) (fun j hj => ?_) m2 (fun j hj => ?_) T.length (Nat.le_refl _) j hj
    · rw [← ln, g1 _ j hj, lst_getD hj]; exact (hb.2 j hj).1
    · rw [← ln, g1 _ j hj, lst_getD hj]; exact (hb.2 j hj).2.2
    · unfold alF
      rw [← ln, g1 _ j hj, g1 _ j hj, lst_getD hj, lst_getD hj, getD_high, m2 j hj, (hb.2 j hj).1, (hb.2 j hj).2.1]
  refine ⟨fun j hj => ⟨low j hj, ?_, ?_⟩, fun j hj => ⟨high j hj, ?_, ?_⟩⟩
  · have e := low j hj
    show inF _ _ _ j = inF _ _ _ j
    unfold inF
    rw [g0 _ j hj, g0 _ j hj, lst_getD hj, lst_getD hj, (hb.1 j hj).1, (hb.1 j hj).2.1]
    rw [show nxF (S ++ T) (bothC S.length Cs Ct) (lst64 (S ++ T).length h.a) (lst64 (S ++ T).length h.i) (lst64 (S ++ T).length h.w) M j = nxF S Cs (lst64 S.length hs.a) (lst64 S.length hs.i) (lst64 S.length hs.w) Ma j from e]
  · have e := low j hj
    show awF _ _ j = awF _ _ j
    unfold awF
    rw [g0 _ j hj, lst_getD hj, (hb.1 j hj).2.2]
    rw [show nxF (S ++ T) (bothC S.length Cs Ct) (lst64 (S ++ T).length h.a) (lst64 (S ++ T).length h.i) (lst64 (S ++ T).length h.w) M j = nxF S Cs (lst64 S.length hs.a) (lst64 S.length hs.i) (lst64 S.length hs.w) Ma j from e]
  · have e := high j hj
    show inF _ _ _ (S.length + j) = inF _ _ _ j
    unfold inF
    rw [g1 _ j hj, g1 _ j hj, lst_getD hj, lst_getD hj, (hb.2 j hj).1, (hb.2 j hj).2.1]
    rw [show nxF (S ++ T) (bothC S.length Cs Ct) (lst64 (S ++ T).length h.a) (lst64 (S ++ T).length h.i) (lst64 (S ++ T).length h.w) M (S.length + j) = nxF T Ct (lst64 T.length ht.a) (lst64 T.length ht.i) (lst64 T.length ht.w) Mb j from e]
  · have e := high j hj
    show awF _ _ (S.length + j) = awF _ _ j
    unfold awF
    rw [g1 _ j hj, lst_getD hj, (hb.2 j hj).2.2]
    rw [show nxF (S ++ T) (bothC S.length Cs Ct) (lst64 (S ++ T).length h.a) (lst64 (S ++ T).length h.i) (lst64 (S ++ T).length h.w) M (S.length + j) = nxF T Ct (lst64 T.length ht.a) (lst64 T.length ht.i) (lst64 T.length ht.w) Mb j from e]
theorem beside_run {S T : List Gp} {Cs Ct : List Cf} (sd : Side S T Cs Ct) {Ms Ma Mb : List Nat} (m1 : ∀ k j, j < S.length → (Ms.getD k 0).testBit j = (Ma.getD k 0).testBit j) (m2 : ∀ k j, j < T.length → (Ms.getD k 0).testBit (S.length + j) = (Mb.getD k 0).testBit j) :
    ∀ k, Beside S.length T.length (runF (S ++ T) (bothC S.length Cs Ct) Ms k) (runF S Cs Ma k) (runF T Ct Mb k)
  | 0 => ⟨fun j hj => ⟨rfl, rfl, rfl⟩, fun j hj => ⟨rfl, rfl, rfl⟩⟩
  | k + 1 => beside_next sd (beside_run sd m1 m2 k) (fun j hj => m1 k j hj) (fun j hj => m2 k j hj)
/-- The pictures. -/
theorem beside_pic {S T : List Gp} {Cs Ct : List Cf} (sd : Side S T Cs Ct) {Ms Ma Mb : List Nat} (m1 : ∀ k j, j < S.length → (Ms.getD k 0).testBit j = (Ma.getD k 0).testBit j) (m2 : ∀ k j, j < T.length → (Ms.getD k 0).testBit (S.length + j) = (Mb.getD k 0).testBit j) (k : Nat) :
    picF (S ++ T) (bothC S.length Cs Ct) Ms k = picF S Cs Ma k ++ picF T Ct Mb k := by
  have hb := beside_run sd m1 m2 k
  have e : lst64 (S ++ T).length (runF (S ++ T) (bothC S.length Cs Ct) Ms k).a = lst64 S.length (runF S Cs Ma k).a ++ lst64 T.length (runF T Ct Mb k).a := by
    apply List.ext_getElem
    · simp [lst_len]
    · intro i h1 h2
      rw [lst_get]
      by_cases hi : i < S.length
      · rw [List.getElem_append_left (by rw [lst_len]; exact hi), lst_get]
        exact (hb.1 i hi).1
      · rw [List.getElem_append_right (by rw [lst_len]; omega), lst_get]
        rw [lst_len, List.length_append] at h1
        have := (hb.2 (i - S.length) (by omega)).1
        rw [show S.length + (i - S.length) = i by omega] at this
        rw [this]
        congr 1
        rw [lst_len]
  unfold picF
  rw [e]
  unfold showS strOfNums
  apply ByteArray.ext
  simp [ByteArray.data_append]
end Go.Proofs.Ytbonmajnkbggcaa
