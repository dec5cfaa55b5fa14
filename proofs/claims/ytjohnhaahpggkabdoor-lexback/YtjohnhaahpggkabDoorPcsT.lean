import Derived.Test.YtjohnhaahpggkabDoorPcsS
namespace Go.Proofs.YtjohnhaahpggkabDoor
set_option linter.unusedVariables false
set_option linter.unusedSimpArgs false

/-- No blank and no comment begins here. -/
def Hd (l : List UInt8) : Prop := ∃ c r, l = c :: r ∧ isB c = false ∧ ¬ c.toNat = 35
theorem hd_run {c : UInt8} (h : isR c = true) : isB c = false ∧ ¬ c.toNat = 35 := by
  rw [isR_iff2] at h
  unfold isB
  constructor
  · simp; omega
  · omega
theorem name_hd {l : List UInt8} (h : NameL l) : Hd l := by
  obtain ⟨_, h2, r, rfl⟩ := h
  exact ⟨81, r, rfl, by decide, by decide⟩
theorem num_hd {v : Nat} {l : List UInt8} (h : NumL v l) : Hd l := by
  obtain ⟨_, _, h3, _, c, r, rfl, hc⟩ := h
  have := hd_run (isR_of_D hc)
  exact ⟨c, r, rfl, this.1, this.2⟩
theorem kw_hd {l : List UInt8} (h : l ∈ kwL) : Hd l := by
  have : ∀ x ∈ kwL, x ≠ [] ∧ isB (x.headD 0) = false ∧ ¬ (x.headD 0).toNat = 35 := by decide
  obtain ⟨h1, h2, h3⟩ := this l h
  cases l with
  | nil => exact absurd rfl h1
  | cons c r => exact ⟨c, r, rfl, h2, h3⟩
theorem sg_hd {l : List UInt8} (h : l ∈ sgL) : Hd l := by
  have : ∀ x ∈ sgL, x ≠ [] ∧ isB (x.headD 0) = false ∧ ¬ (x.headD 0).toNat = 35 := by decide
  obtain ⟨h1, h2, h3⟩ := this l h
  cases l with
  | nil => exact absurd rfl h1
  | cons c r => exact ⟨c, r, rfl, h2, h3⟩

theorem place_at (s : ByteArray) : ∀ k, k ≤ s.size → behK s 1 1 k = (lineAt s k, colAt s k)
  | 0, _ => by rw [(at_start s).1, (at_start s).2.1]; rfl
  | k + 1, h => by
    have ih := place_at s k (by omega)
    by_cases e : (s[k].toNat : Int) = 10
    · rw [behK_hit s 1 1 k (by omega) e, ih, lineAt_hit s k (by omega) e, colAt_hit s k (by omega) e]
    · rw [behK_miss s 1 1 k (by omega) e, ih, lineAt_miss s k (by omega) e, colAt_miss s k (by omega) e]
/-- The place behind a text's beginning. -/
theorem place_of (P R : List UInt8) : lineAt (bs (P ++ R)) P.length = (behL 1 1 P).1 ∧ colAt (bs (P ++ R)) P.length = (behL 1 1 P).2 := by
  have h := place_at (bs (P ++ R)) P.length (by rw [bs_szp]; simp)
  unfold behK at h
  have e : (bs (P ++ R)).data.toList.take P.length = P := by unfold bs; simp
  rw [e] at h
  rw [h]; exact ⟨rfl, rfl⟩
theorem drop_of (P R : List UInt8) : (bs (P ++ R)).data.toList.drop P.length = R := by unfold bs; simp

/-- What is passed over changes nothing. -/
theorem stm_skip {P l R : List UInt8} {ts : List Tok} {z : Tok} (h : Skp l) (hs : Stm (bs (P ++ (l ++ R))) (P ++ l).length ts z) : Stm (bs (P ++ (l ++ R))) P.length ts z := by
  have e : skipAt (bs (P ++ (l ++ R))) P.length = skipAt (bs (P ++ (l ++ R))) (P ++ l).length := by
    unfold skipAt
    rw [drop_of P (l ++ R), h R]
    have : (bs (P ++ (l ++ R))).data.toList.drop (P ++ l).length = R := by
      rw [← List.append_assoc]; exact drop_of (P ++ l) R
    rw [this, List.length_append]; omega
  cases hs with
  | stop _ h' => rw [← e] at h' ⊢; exact Stm.stop _ h'
  | go _ ts _ h' hr => rw [← e] at h' hr ⊢; exact Stm.go _ _ _ h' hr
/-- A token is told. -/
theorem stm_tok {P l R : List UInt8} {tk : Tk} {ts : List Tok} {z : Tok} (h : Whl tk l) (hd : Hd l) (hm : meldF l R = false) (hk : ¬ Ends tk) (hs : Stm (bs (P ++ (l ++ R))) (P ++ l).length ts z) :
    Stm (bs (P ++ (l ++ R))) P.length (⟨tk, (behL 1 1 P).1, (behL 1 1 P).2⟩ :: ts) z := by
  obtain ⟨c, r, hl, hc1, hc2⟩ := hd
  have e : skipAt (bs (P ++ (l ++ R))) P.length = P.length := by
    unfold skipAt
    rw [drop_of P (l ++ R), hl, List.cons_append, skipL, if_neg (by simp [hc1]), if_neg hc2]; rfl
  have hf := h.2 R hm
  have et : tokAt (bs (P ++ (l ++ R))) P.length = ⟨tk, (behL 1 1 P).1, (behL 1 1 P).2⟩ := by
    unfold tokAt
    rw [drop_of P (l ++ R), hf, (place_of P (l ++ R)).1, (place_of P (l ++ R)).2]
  have es : sizeAt (bs (P ++ (l ++ R))) P.length = l.length := by
    unfold sizeAt
    rw [drop_of P (l ++ R), hf]
  have hg := Stm.go (s := bs (P ++ (l ++ R))) P.length ts z (by rw [e, et]; exact hk) (by rw [e, es, ← List.length_append]; exact hs)
  rw [e, et] at hg
  exact hg
/-- The text's end. -/
theorem stm_end (P : List UInt8) : Stm (bs P) P.length [] ⟨⟨0, 0, []⟩, (behL 1 1 P).1, (behL 1 1 P).2⟩ := by
  have hz : (bs P).size = P.length := bs_szp P
  have e := skip_end (bs P) P.length (by omega)
  have hp := place_of P []
  rw [List.append_nil] at hp
  have et : tokAt (bs P) P.length = ⟨⟨0, 0, []⟩, (behL 1 1 P).1, (behL 1 1 P).2⟩ := by
    unfold tokAt
    rw [drop_end (bs P) P.length (by omega), hp.1, hp.2]; rfl
  have := Stm.stop (s := bs P) P.length (by rw [e, et]; exact .inl rfl)
  rw [e, et] at this
  exact this

/-- What the writer has written: B, its tokens T; la: the last piece. -/
structure Wrt (B : List UInt8) (T : List Tok) (la : List UInt8) : Prop where
  read : ∀ R ts z, meldF la R = false → Stm (bs (B ++ R)) B.length ts z → Stm (bs (B ++ R)) 0 (T ++ ts) z
theorem Wrt.nil : Wrt [] [] [] := ⟨fun R ts z _ h => h⟩
theorem meldF_nil (r : List UInt8) : meldF [] r = false := rfl
theorem meldF_app {l a b : List UInt8} (ha : a ≠ []) : meldF l (a ++ b) = meldF l a := by
  cases a with
  | nil => exact absurd rfl ha
  | cons c a => rfl
theorem skp_one : Skp [32] := skp_blank rfl
/-- One more token, with a blank ahead of it where it would meld. -/
theorem Wrt.tok {B la l : List UInt8} {T : List Tok} {tk : Tk} (h : Wrt B T la) (hw : Whl tk l) (hd : Hd l) (hk : ¬ Ends tk) (hm : meldF la l = false) : Wrt (B ++ l) (T ++ [⟨tk, (behL 1 1 B).1, (behL 1 1 B).2⟩]) l := by
  refine ⟨fun R ts z hmr hs => ?_⟩
  rw [List.append_assoc] at hs ⊢
  have h1 := stm_tok (P := B) hw hd hmr hk hs
  have h2 := h.read (l ++ R) _ z (by rw [meldF_app hw.1]; exact hm) h1
  rw [List.append_assoc]
  exact h2
theorem Wrt.skp {B la l : List UInt8} {T : List Tok} (h : Wrt B T la) (hs : Skp l) (hne : l ≠ []) (hm : meldF la l = false) : Wrt (B ++ l) T l := by
  refine ⟨fun R ts z _ hr => ?_⟩
  rw [List.append_assoc] at hr ⊢
  exact h.read (l ++ R) _ z (by rw [meldF_app hne]; exact hm) (stm_skip hs hr)
theorem meld_blank (la : List UInt8) : meldF la [32] = false := by
  unfold meldF
  cases la.getLast? with
  | none => rfl
  | some x => simp; intro _; decide
theorem blank_meld {l : List UInt8} (h : l ≠ []) : meldF [32] l = false := by
  cases l with
  | nil => rfl
  | cons y r => simp [meldF]; intro h; exact absurd h (by decide)
/-- All of it. -/
theorem Wrt.all {B la : List UInt8} {T : List Tok} (h : Wrt B T la) : Stm (bs B) 0 T ⟨⟨0, 0, []⟩, (behL 1 1 B).1, (behL 1 1 B).2⟩ := by
  have := h.read [] [] _ (by unfold meldF; cases la.getLast? <;> rfl) (by rw [List.append_nil]; exact stm_end B)
  rw [List.append_nil, List.append_nil] at this
  exact this
end Go.Proofs.YtjohnhaahpggkabDoor
