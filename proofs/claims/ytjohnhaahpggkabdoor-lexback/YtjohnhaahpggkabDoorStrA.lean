import Derived.Test.YtjohnhaahpggkabDoorStrM
namespace Go.Proofs.YtjohnhaahpggkabDoor
open Go.RowKit
set_option linter.unusedVariables false

/-- Of what was there only blocks of S may have turned. -/
structure Only (S : Nat → Prop) (w w' : World) : Prop where
  os : w'.os = w.os
  tape : w'.tape = w.tape
  output : w'.output = w.output
  size : w.heap.size ≤ w'.heap.size
  block : ∀ k, k < w.heap.size → ¬ S k → w'.heap[k]? = w.heap[k]?
theorem Only.refl (S : Nat → Prop) (w : World) : Only S w w := ⟨rfl, rfl, rfl, Nat.le_refl _, fun _ _ _ => rfl⟩
theorem Only.trans {S : Nat → Prop} {a b c : World} (h : Only S a b) (k : Only S b c) : Only S a c :=
  ⟨k.os.trans h.os, k.tape.trans h.tape, k.output.trans h.output, Nat.le_trans h.size k.size, fun i hi hn => (k.block i (Nat.lt_of_lt_of_le hi h.size) hn).trans (h.block i hi hn)⟩
theorem Only.of_below {S : Nat → Prop} {w w' : World} (h : Below w.heap.size w w') : Only S w w' := ⟨h.os, h.tape, h.output, h.size, fun k hk _ => h.block k hk⟩
theorem Only.below {S : Nat → Prop} {a w w' : World} (h : Only S a w) (hb : Below w.heap.size w w') : Only S a w' := h.trans (.of_below hb)
theorem Only.alloc {S : Nat → Prop} {a w : World} (h : Only S a w) (o : Obj) : Only S a (w.alloc o) := h.below ((Below.refl _ _).alloc (Nat.le_refl _) _)
theorem Only.drew {S : Nat → Prop} {a w : World} (h : Only S a w) : Only S a w.drew := ⟨h.os, h.tape, h.output, h.size, h.block⟩
theorem Only.set {S : Nat → Prop} {a w : World} (h : Only S a w) {b i : Nat} (hb : S b) (v : Value) : Only S a (w.setCell ⟨b, i, none⟩ v) :=
  h.trans ⟨rfl, rfl, rfl, by simp [World.setCell], fun k hk hn => Below.heap_setCell _ _ _ _ (fun e => hn (by rw [e]; exact hb))⟩
theorem Only.set_new {S : Nat → Prop} {a w : World} (h : Only S a w) {b i : Nat} (hb : a.heap.size ≤ b) (v : Value) : Only S a (w.setCell ⟨b, i, none⟩ v) :=
  ⟨h.os, h.tape, h.output, by have := h.size; simpa [World.setCell] using this, fun k hk hn => (Below.heap_setCell _ _ _ _ (by show k ≠ b; omega)).trans (h.block k hk hn)⟩
theorem Has.blk {w w' : World} {b : Nat} {vs : Array Value} (h : Has w b vs) (hs : w.heap.size ≤ w'.heap.size) (hb : w'.heap[b]? = w.heap[b]?) : Has w' b vs :=
  ⟨Nat.lt_of_lt_of_le h.1 hs, fun i => (World.cell?_of_block (w := w) hb).trans (h.2.1 i), fun i => (World.frozen?_of_block (w := w) hb).trans (h.2.2 i)⟩
theorem Has.only {S : Nat → Prop} {w w' : World} {b : Nat} {vs : Array Value} (h : Has w b vs) (ho : Only S w w') (hb : ¬ S b) : Has w' b vs := h.blk ho.size (ho.block b h.1 hb)
theorem Wt.only {S : Nat → Prop} {w w' : World} (h : Wt w) (ho : Only S w w') (hb : ¬ S 2) : Wt w' :=
  ⟨Nat.lt_of_lt_of_le h.1 ho.size, fun i hi => (World.cell?_of_block (w := w) (ho.block 2 h.1 hb)).trans (h.2 i hi)⟩

/-- The end of the line that i is in. -/
def lEnd (s : ByteArray) (i : Nat) : Nat := i + ((s.data.toList.drop i).takeWhile (fun c => c != 10)).length
theorem lEnd_at (s : ByteArray) (i q : Nat) (hiq : i ≤ q) (hq : q ≤ s.size) (hall : ∀ j (hj : j < s.size), i ≤ j → j < q → ¬ s[j] = 10) (hend : q = s.size ∨ ∃ h : q < s.size, s[q] = 10) : lEnd s i = q := by
  unfold lEnd
  rw [(span_p (fun c => c != 10) s i q hiq hq (fun j hj a b => by simpa using hall j hj a b) (by
    rcases hend with h | ⟨h, e⟩
    · exact .inl h
    · exact .inr ⟨h, by simp [e]⟩)).1, Lib.extract_data]
  simp; omega
theorem lEnd_ex (s : ByteArray) (i : Nat) (hi : i ≤ s.size) : ∃ q, lEnd s i = q ∧ i ≤ q ∧ q ≤ s.size ∧ (∀ j (hj : j < s.size), i ≤ j → j < q → ¬ s[j] = 10) ∧ (q = s.size ∨ ∃ h : q < s.size, s[q] = 10) := by
  have key : ∀ n q, s.size - q ≤ n → i ≤ q → q ≤ s.size → (∀ j (hj : j < s.size), i ≤ j → j < q → ¬ s[j] = 10) → ∃ q, i ≤ q ∧ q ≤ s.size ∧ (∀ j (hj : j < s.size), i ≤ j → j < q → ¬ s[j] = 10) ∧ (q = s.size ∨ ∃ h : q < s.size, s[q] = 10) := by
    intro n
    induction n with
    | zero => intro q hn h1 h2 h3; exact ⟨q, h1, h2, h3, .inl (by omega)⟩
    | succ n ih =>
      intro q hn h1 h2 h3
      by_cases hlt : q < s.size
      · by_cases e : s[q] = 10
        · exact ⟨q, h1, h2, h3, .inr ⟨hlt, e⟩⟩
        · refine ih (q + 1) (by omega) (by omega) (by omega) (fun j hj a b => ?_)
          by_cases e2 : j = q
          · subst e2; exact e
          · exact h3 j hj a (by omega)
      · exact ⟨q, h1, h2, h3, .inl (by omega)⟩
  obtain ⟨q, h1, h2, h3, h4⟩ := key _ i (Nat.le_refl _) (Nat.le_refl _) hi (fun j hj a b => by omega)
  exact ⟨q, lEnd_at s i q h1 h2 h3 h4, h1, h2, h3, h4⟩

theorem ten_iff (c : UInt8) : (c.toNat : Int) = 10 ↔ c = 10 := by
  constructor
  · intro h; apply UInt8.toNat_inj.1; show c.toNat = 10; omega
  · rintro rfl; rfl

set_option maxRecDepth 100000 in
set_option maxHeartbeats 1000000 in
theorem commentEnd_any (s : ByteArray) (i : Nat) (w : World) (hs : s.size < 4611686018427387904) (hi : i ≤ s.size) :
    Calls Tryd.prog 39 #[.string s, .int .i64 i] w fun e w' => e = .returned (.int .i64 (lEnd s i : Nat)) ∧ w' = w := by
  have hE : Hid (∀ q, i ≤ q → q ≤ s.size → (∀ j (hj : j < s.size), i ≤ j → j < q → ¬ s[j] = 10) → (q = s.size ∨ ∃ h : q < s.size, s[q] = 10) → lEnd s i = q) := fun q h1 h2 h3 h4 => lEnd_at s i q h1 h2 h3 h4
  generalize lEnd s i = E at hE ⊢
  go_enter Tryd.func39, Tryd.ntmps39
  go_wp2
  go_loop [1] (fun tj => ∃ q : Nat, i ≤ q ∧ q ≤ s.size ∧ tj = .int .i64 q ∧ ∀ j (hj : j < s.size), i ≤ j → j < q → ¬ s[j] = 10) (fun tj => s.size - (intOf tj).toNat)
  case atStart => exact ⟨i, Nat.le_refl _, hi, rfl, fun j hj h1 h2 => by omega⟩
  case round =>
    obtain ⟨q, hiq, hq, rfl, hall⟩ := hrel
    have HA : Hid (∀ j (hj : j < s.size), i ≤ j → j < q → ¬ s[j] = 10) := hall
    clear hall
    by_cases hlt : q < s.size
    · by_cases h10 : (s[q].toNat : Int) = 10
      · have HE : Hid (E = q) := hE.out q hiq hq HA.out (.inr ⟨hlt, (ten_iff _).1 h10⟩)
        go_wp2
        go_ret
        exact ⟨ret_int (by rw [HE.out]), rfl⟩
      · go_wp2
        go_round
        case rel => exact ⟨q + 1, by omega, by omega, by go_num, fun j hj h1 h2 => by
          by_cases e : j = q
          · subst e; exact fun c => h10 ((ten_iff _).2 c)
          · exact HA.out j hj h1 (by omega)⟩
        case measure => simp [intOf]; omega
    · have HE : Hid (E = q) := hE.out q hiq hq HA.out (.inl (by omega))
      go_wp2
      go_ret
      exact ⟨ret_int (by rw [HE.out]), rfl⟩
end Go.Proofs.YtjohnhaahpggkabDoor
