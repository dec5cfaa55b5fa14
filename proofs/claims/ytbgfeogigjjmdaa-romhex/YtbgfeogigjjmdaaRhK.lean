import Derived.Test.YtbgfeogigjjmdaaRhH
import Derived.Test.YtbgfeogigjjmdaaRhD
namespace Go.Proofs.Ytbgfeogigjjmdaa
open Go.RowKit
set_option linter.unusedVariables false

theorem linF_lt {st st' : Rd} {l : List Nat} (h : linF st l = .ok st') (hD : ∀ x ∈ st.D, x < 256) : ∀ x ∈ st'.D, x < 256 := by
  unfold linF at h
  split at h
  · cases h
  · split at h
    · cases h
    · rename_i all hp
      obtain ⟨_, ha⟩ := parF_ok hp
      have hd : ∀ x ∈ dataF all, x < 256 := fun x hx => ha x (List.mem_of_mem_drop (List.mem_of_mem_take hx))
      generalize dataF all = d at h hd
      generalize kindF all = kk at h
      generalize addrF all = ad at h
      have hap : ∀ x ∈ st.D ++ d, x < 256 := fun x hx => by
        rcases List.mem_append.1 hx with h | h
        · exact hD x h
        · exact hd x h
      unfold recF datF at h
      (repeat' split at h) <;> first | (cases h; done) | (cases h; first | exact hD | exact hap)
theorem runL_lt : ∀ (ls : List (List Nat × Bool)) (st st' : Rd) (n : Nat), runL st n ls = .ok st' → (∀ x ∈ st.D, x < 256) → ∀ x ∈ st'.D, x < 256
  | [], st, st', n, h, hD => by cases h; exact hD
  | x :: r, st, st', n, h, hD => by
    simp only [runL] at h
    cases hx : linF st (strip x) with
    | error e => rw [hx] at h; cases h
    | ok s1 =>
      rw [hx] at h
      exact runL_lt r s1 st' (n + 1) h (linF_lt hx hD)
/-- The two ToHex. -/
theorem to_pair (D : List Nat) (hD : ∀ x ∈ D, x < 256) : ∃ (T : ByteArray) (f : Int),
    (∀ (W : World) (a : Option Addr) (cap : Nat), Bs W a D → D.length ≤ cap → cap ≤ 9223372036854775807 → Calls Try.prog 9 #[.slice a D.length cap] W fun e w' => e = .returned (.tuple #[.string T, .int .i64 f]) ∧ Below W.heap.size W w') ∧
    (∀ (W : World) (a : Option Addr) (cap : Nat), Bs W a D → D.length ≤ cap → cap ≤ 9223372036854775807 → Calls Try.prog 6 #[.slice a D.length cap] W fun e w' => e = .returned (.tuple #[.string T, .int .i64 f]) ∧ Below W.heap.size W w') := by
  rcases Nat.lt_or_ge 1048576 D.length with h | h
  · exact ⟨⟨#[]⟩, 100, fun W a cap _ _ _ => (refToHex_big D a cap W h).mono fun e w' he => ⟨he.1, he.2 ▸ Below.refl _ _⟩, fun W a cap _ _ _ => (toHex_big D a cap W h).mono fun e w' he => ⟨he.1, he.2 ▸ Below.refl _ _⟩⟩
  · exact ⟨ba (hexT D), 0, fun W a cap h1 h2 h3 => refToHex_ok D a cap W h1 h2 h3 h, fun W a cap h1 h2 h3 => toHex_ok D a cap W h1 h2 h3 h⟩
/-- The two FromHex. -/
theorem from_pair (s : ByteArray) (hs : s.size < 4611686018427387904) : ∃ (c ln col : Int) (L : List Nat), L.length ≤ 140737488355328 ∧
    (∀ W : World, Calls Try.prog 10 #[.string s] W fun e w' => ∃ a cp, e = .returned (.tuple #[.slice a L.length cp, .agg #[.int .i64 c, .int .i64 ln, .int .i64 col]]) ∧ Bs w' a L ∧ Below W.heap.size W w') ∧
    (∀ W : World, Calls Try.prog 7 #[.string s] W fun e w' => ∃ a cp, e = .returned (.tuple #[.slice a L.length cp, .agg #[.int .i64 c, .int .i64 ln, .int .i64 col]]) ∧ Bs w' a L ∧ Below W.heap.size W w') := by
  have hsz : s.data.toList.length = s.size := by rw [Array.length_toList]; rfl
  have hbs : bs s.data.toList = s := by unfold bs; simp
  have hX : s.data.toList.length < 4611686018427387904 := by omega
  have hru : runU st0 1 (cutU s.data.toList) = runL st0 1 (rawL (nl s)) := runU_raw _ _ (Nat.le_refl _) _ _
  have hF := fun W => refFrom_any s W hs
  have hnil : ∀ w' : World, Bs w' none [] := fun w' => ⟨by simp, .inl rfl⟩
  cases hr : runL st0 1 (rawL (nl s)) with
  | error ec =>
    obtain ⟨c, ln, col⟩ := ec
    rw [hr] at hF hru
    refine ⟨c, ln, col, [], by simp, fun W => (hF W).mono fun e w' he => ⟨none, 0, he.1, hnil _, he.2⟩, fun W => ?_⟩
    have := fromHex_bad s.data.toList W hX c ln col hru
    rw [hbs] at this
    exact this.mono fun e w' he => ⟨none, 0, he.1, hnil _, he.2⟩
  | ok st =>
    rw [hr] at hF hru
    have hDl := runU_len _ _ _ _ hru (by simp [st0])
    cases hen : st.en with
    | true =>
      have h256 : ∀ x ∈ st.D, x < 256 := runL_lt _ _ _ _ hr (by simp [st0])
      refine ⟨0, 0, 0, st.D, by omega, fun W => (hF W).mono fun e w' he => ?_, fun W => ?_⟩
      · have h1 : if st.en = true then _ else _ := he.1
        rw [if_pos hen] at h1
        obtain ⟨dv, rfl, ho, h256⟩ := h1
        obtain ⟨a, cp, rfl, hb⟩ := own_Bs ho rfl h256
        exact ⟨a, cp, rfl, hb, he.2⟩
      · have := fromHex_ok s.data.toList W hX st hru hen
        rw [hbs] at this
        refine this.mono fun e w' he => ?_
        obtain ⟨dv, rfl, hb, ho⟩ := he
        obtain ⟨a, cp, rfl, hb2⟩ := own_Bs ho rfl h256
        exact ⟨a, cp, rfl, hb2, hb⟩
    | false =>
      refine ⟨103, (Lib.countByte s.data.toList 10 : Nat) + 1, (s.size : Int) - Lib.lastIndexByte s 10, [], by simp, fun W => (hF W).mono fun e w' he => ?_, fun W => ?_⟩
      · have h1 : if st.en = true then _ else _ := he.1
        rw [if_neg (by rw [hen]; decide)] at h1
        exact ⟨none, 0, h1, hnil _, he.2⟩
      · have := fromHex_cut s.data.toList W hX st hru hen _ _ rfl rfl
        rw [hbs] at this
        exact this.mono fun e w' he => ⟨none, 0, he.1, hnil _, he.2⟩
end Go.Proofs.Ytbgfeogigjjmdaa
