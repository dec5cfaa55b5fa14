import Derived.Test.YtjohnhaahpggkabDoorBkM
namespace Go.Proofs.YtjohnhaahpggkabDoor
open Go.RowKit
set_option linter.unusedVariables false
set_option linter.unusedSimpArgs false

def Tok.q (x : Tok) : Tq := mkTq x.t x.line x.col
theorem jnL_pre (L R : List Tq) : ∀ k, k ≤ L.length → jnL (L ++ R) k = jnL L k
  | 0, _ => rfl
  | k + 1, h => by
    rw [jnL_succ (L ++ R) k (by simp; omega), jnL_succ L k (by omega), jnL_pre L R k (by omega), List.getElem_append_left (by omega)]
theorem jnL_le (L : List Tq) (k : Nat) : ∀ m, k ≤ m → m ≤ L.length → (jnL L k).length ≤ (jnL L m).length
  | 0, h, _ => by
    obtain rfl : k = 0 := by omega
    exact Nat.le_refl _
  | m + 1, h, hm => by
    rw [jnL_succ L m (by omega), List.length_append]
    by_cases hk : k = m + 1
    · subst hk; rw [jnL_succ L m (by omega), List.length_append]; exact Nat.le_refl _
    · have := jnL_le L k m (by omega) (by omega)
      omega
/-- What Join writes of the tokens so far, and how it is read. -/
structure Bk (T : List Tok) (lo : Nat) : Prop where
  spl : ∀ x ∈ T, ∃ m, Spl x.t m
  wrt : ∃ T' la, Wrt (jnL (T.map Tok.q) T.length) T' la ∧ T'.map (·.t) = T.map (·.t)
  len : (jnL (T.map Tok.q) T.length).length ≤ lo
theorem Bk.nil : Bk [] 0 := ⟨fun x hx => (by cases hx), ⟨[], [], Wrt.nil, rfl⟩, Nat.le_refl _⟩
theorem bsl (l : List UInt8) : (bs l).data.toList = l := by unfold bs; simp
theorem Bk.snoc {T : List Tok} {lo d : Nat} {x : Tok} {m : List UInt8} (h : Bk T lo) (hs : Spl x.t m) (hd : m.length + 1 ≤ d) : Bk (T ++ [x]) (lo + d) := by
  have e0 : (T ++ [x]).map Tok.q = T.map Tok.q ++ [x.q] := by simp
  have e1 : jnL ((T ++ [x]).map Tok.q) (T ++ [x]).length = jnL (T.map Tok.q) T.length ++ ((if T.length = 0 then [] else [32]) ++ m) := by
    rw [e0, show (T ++ [x]).length = T.length + 1 by simp, jnL_succ _ _ (by simp), jnL_pre _ _ _ (by simp)]
    congr 2
    rw [List.getElem_append_right (by simp)]
    simp only [List.length_map, Nat.sub_self, List.getElem_cons_zero]
    unfold Tok.q
    rw [hs.sp, bsl]
  have hne : m ≠ [] := hs.whl.1
  refine ⟨?_, ?_, ?_⟩
  · intro y hy
    rcases List.mem_append.1 hy with h1 | h1
    · exact h.spl y h1
    · obtain rfl : y = x := by simpa using h1
      exact ⟨m, hs⟩
  · obtain ⟨T', la, hW, hm⟩ := h.wrt
    rw [e1]
    by_cases h0 : T.length = 0
    · obtain rfl : T = [] := List.eq_nil_of_length_eq_zero h0
      have h2 : Wrt ([] ++ m) ([] ++ [⟨x.t, (behL 1 1 []).1, (behL 1 1 []).2⟩]) m := Wrt.nil.tok hs.whl hs.hd hs.nz (meldF_nil m)
      exact ⟨_, _, h2, rfl⟩
    · rw [if_neg h0]
      have h2 := (hW.skp skp_one (by simp) (meld_blank la)).tok hs.whl hs.hd hs.nz (blank_meld hne)
      rw [List.append_assoc] at h2
      exact ⟨_, _, h2, by simp [hm]⟩
  · rw [e1]
    have := h.len
    by_cases h0 : T.length = 0
    · rw [if_pos h0]; simp; omega
    · rw [if_neg h0]; simp; omega

def endQ : Tq := ⟨0, 0, ⟨#[]⟩, 0, 0⟩
theorem end_ok : okF endQ true = true := by
  have h : (⟨#[]⟩ : ByteArray) = bs [] := rfl
  unfold okF endQ
  dsimp only
  rw [if_neg (by omega), if_neg (by omega), if_pos rfl, h, bs_empty]; rfl
/-- What Join answers. -/
theorem jn_back {T : List Tok} {lo : Nat} (hb : Bk T lo) (hlo : lo ≤ 65000) {E : List Tq} (hE : E = [] ∨ E = [endQ]) {B : List UInt8} {er : Int} (h : Jn (T.map Tok.q ++ E) B er) : er = 0 ∧ B = jnL (T.map Tok.q) T.length := by
  have hlen : (T.map Tok.q ++ E).length = T.length + E.length := by simp
  have hok : ∀ i, i < (T.map Tok.q ++ E).length → okAt (T.map Tok.q ++ E) i = true := by
    intro i hi
    rw [okAt_at _ i hi]
    by_cases h1 : i < T.length
    · rw [List.getElem_append_left (by simpa using h1), List.getElem_map]
      obtain ⟨m, hm⟩ := hb.spl T[i] (List.getElem_mem h1)
      exact hm.ok _ _ _
    · rcases hE with rfl | rfl
      · simp at hi; omega
      · have hi2 : i = T.length := by simp at hi; omega
        subst hi2
        rw [List.getElem_append_right (by simp)]
        simp
        exact end_ok
  have hup : ∀ k, k ≤ (T.map Tok.q ++ E).length → (∀ i (h : i < (T.map Tok.q ++ E).length), i < k → (T.map Tok.q ++ E)[i].k ≠ 0) → k ≤ T.length := by
    intro k hk hz
    rcases hE with rfl | rfl
    · simpa using hk
    · rcases Nat.lt_or_ge T.length k with h1 | h1
      · have := hz T.length (by simp) h1
        rw [List.getElem_append_right (by simp)] at this
        simp [endQ] at this
      · exact h1
  cases h with
  | bad i h1 h2 => rw [hok i h1] at h2; cases h2
  | long k hk ho he hl =>
    have h1 := hup k hk he
    rw [jnL_pre _ _ _ (by simpa using h1)] at hl
    have h2 := jnL_le (T.map Tok.q) k T.length h1 (by simp)
    have := hb.len
    omega
  | fine k hk ho he hz hl =>
    have h1 := hup k hk he
    have h2 : k = T.length := by
      rcases hz with h3 | ⟨h3, h4⟩
      · rw [hlen] at h3; omega
      · rcases Nat.lt_or_ge k T.length with h5 | h5
        · exfalso
          rw [List.getElem_append_left (by simpa using h5), List.getElem_map] at h4
          obtain ⟨m, hm⟩ := hb.spl T[k] (List.getElem_mem h5)
          exact hm.nz (.inl h4)
        · omega
    subst h2
    exact ⟨rfl, jnL_pre _ _ _ (by simp)⟩
end Go.Proofs.YtjohnhaahpggkabDoor
