import Derived.Test.YtnicolaphmffkaaGreatDoorLxA
namespace Go.Proofs.YtnicolaphmffkaaGreatDoor
open Go.RowKit
set_option linter.unusedVariables false
set_option linter.unusedSimpArgs false

theorem indexByte_hit (c : UInt8) : ∀ (l : List UInt8) (i : Nat) (hi : i < l.length), l[i] = c → (∀ j (hj : j < l.length), j < i → ¬ l[j] = c) → Lib.indexByte l c = i
  | [], i, hi, _, _ => by simp at hi
  | a :: l, 0, _, e, _ => by simp only [List.getElem_cons_zero] at e; simp [Lib.indexByte, e]
  | a :: l, i + 1, hi, e, hf => by
    have ha : ¬ a = c := hf 0 (by simp) (by omega)
    have ih := indexByte_hit c l i (by simpa using hi) (by simpa using e) (fun j hj hji => by have := hf (j + 1) (by simpa using hj) (by omega); simpa using this)
    have ha' : (a == c) = false := by simpa using ha
    have hn : ((i : Int) == -1) = false := by rw [beq_eq_false_iff_ne]; omega
    unfold Lib.indexByte
    rw [ha', ih, hn]; simp
theorem indexByte_miss (c : UInt8) : ∀ (l : List UInt8), (∀ j (hj : j < l.length), ¬ l[j] = c) → Lib.indexByte l c = -1
  | [], _ => rfl
  | a :: l, hf => by
    have ha : ¬ a = c := hf 0 (by simp)
    have ih := indexByte_miss c l (fun j hj => by have := hf (j + 1) (by simpa using hj); simpa using this)
    have ha' : (a == c) = false := by simpa using ha
    unfold Lib.indexByte
    rw [ha', ih]; simp

set_option maxRecDepth 100000 in
set_option maxHeartbeats 1000000 in
theorem cut64_hit (s : ByteArray) (c : UInt8) (i : Nat) (hi : i < s.size) (w : World) (hs : s.size < 4611686018427387904) (e : s[i] = c) (hf : ∀ j (hj : j < s.size), j < i → ¬ s[j] = c) :
    Calls Tryz.prog 140 #[.string s, .string ⟨#[c]⟩] w fun e w' => e = .returned (.tuple #[.string (s.extract 0 i), .string (s.extract (i + 1) s.size), .bool true]) ∧ ∃ n, w' = w.drewN n := by
  have hI := fun w => Tryz.stringslite_Index_one s c w
  rw [indexByte_hit c s.data.toList i (by simpa using hi) e (fun j hj hji => hf j (by simpa using hj) hji)] at hI
  clear e hf
  have q0 : (0 : Int) ≤ (i : Int) := by omega
  have q1 : (i : Int) ≤ (s.size : Int) := by omega
  have q2 : (i : Int) + 1 ≤ (s.size : Int) := by omega
  go_enter Tryz.func140, Tryz.ntmps140
  go_wp2_with (go_at_call 141; refine (hI _).mono ?_; rintro e w' ⟨rfl, hwe⟩; subst hwe)
  go_quiet (fail)
  go_wp2
  go_ret3
  exact ⟨rfl, _, rfl⟩
set_option maxRecDepth 100000 in
set_option maxHeartbeats 1000000 in
theorem cut64_miss (s : ByteArray) (c : UInt8) (w : World) (hs : s.size < 4611686018427387904) (hf : ∀ j (hj : j < s.size), ¬ s[j] = c) :
    Calls Tryz.prog 140 #[.string s, .string ⟨#[c]⟩] w fun e w' => e = .returned (.tuple #[.string s, .string ByteArray.empty, .bool false]) ∧ w' = w := by
  have hI := fun w => Tryz.stringslite_Index_one s c w
  rw [indexByte_miss c s.data.toList (fun j hj => hf j (by simpa using hj))] at hI
  clear hf
  go_enter Tryz.func140, Tryz.ntmps140
  go_wp2_with (go_at_call 141; refine (hI _).mono ?_; rintro e w' ⟨rfl, hwe⟩; subst hwe)
  go_ret3
  exact ⟨rfl, rfl⟩
set_option maxRecDepth 100000 in
set_option maxHeartbeats 1000000 in
theorem cut_hit (s : ByteArray) (c : UInt8) (i : Nat) (hi : i < s.size) (w : World) (hs : s.size < 4611686018427387904) (e : s[i] = c) (hf : ∀ j (hj : j < s.size), j < i → ¬ s[j] = c) :
    Calls Tryz.prog 137 #[.string s, .string ⟨#[c]⟩] w fun e w' => e = .returned (.tuple #[.string (s.extract 0 i), .string (s.extract (i + 1) s.size), .bool true]) ∧ ∃ n, w' = w.drewN n := by
  have hI := fun w => cut64_hit s c i hi w hs e hf
  clear e hf
  go_enter Tryz.func137, Tryz.ntmps137
  go_wp2_with (go_at_call 140; refine (hI _).mono ?_; rintro e w' ⟨rfl, n, hwe⟩; subst hwe)
  go_ret3
  exact ⟨rfl, _, rfl⟩
set_option maxRecDepth 100000 in
set_option maxHeartbeats 1000000 in
theorem cut_miss (s : ByteArray) (c : UInt8) (w : World) (hs : s.size < 4611686018427387904) (hf : ∀ j (hj : j < s.size), ¬ s[j] = c) :
    Calls Tryz.prog 137 #[.string s, .string ⟨#[c]⟩] w fun e w' => e = .returned (.tuple #[.string s, .string ByteArray.empty, .bool false]) ∧ ∃ n, w' = w.drewN n := by
  have hI := fun w => cut64_miss s c w hs hf
  clear hf
  go_enter Tryz.func137, Tryz.ntmps137
  go_wp2_with (go_at_call 140; refine (hI _).mono ?_; rintro e w' ⟨rfl, hwe⟩; subst hwe)
  go_ret3
  exact ⟨rfl, 0, rfl⟩

set_option maxRecDepth 100000 in
set_option maxHeartbeats 1000000 in
theorem cutPrefix54 (s : ByteArray) (H : Bool) (w : World) (hs : s.size < 4611686018427387904) (hH : Lib.hasPrefix s.data.toList [48, 120] = H) (h2 : H = true → 2 ≤ s.size) :
    Calls Tryz.prog 134 #[.string s, .string ⟨#[48, 120]⟩] w fun e w' => e = .returned (.tuple #[.string (if H then s.extract 2 s.size else s), .bool H]) ∧ w' = w := by
  have hI := fun w => Tryz.stringslite_HasPrefix s ⟨#[48, 120]⟩ w
  have hH' : Lib.hasPrefix s.data.toList (ByteArray.mk #[48, 120]).data.toList = H := hH
  rw [hH'] at hI
  clear hH hH'
  cases H
  · clear h2
    go_enter Tryz.func134, Tryz.ntmps134
    go_wp2_with (go_at_call 138; with_reducible refine (hI _).mono ?_; rintro e w' ⟨rfl, hwe⟩; subst hwe)
    go_ret2
    exact ⟨rfl, rfl⟩
  · have h2' : (2 : Int) ≤ (s.size : Int) := by have := h2 rfl; omega
    clear h2
    go_enter Tryz.func134, Tryz.ntmps134
    go_wp2_with (go_at_call 138; with_reducible refine (hI _).mono ?_; rintro e w' ⟨rfl, hwe⟩; subst hwe)
    go_ret2
    exact ⟨rfl, rfl⟩
set_option maxRecDepth 100000 in
set_option maxHeartbeats 1000000 in
theorem cutPrefix_any (s : ByteArray) (H : Bool) (w : World) (hs : s.size < 4611686018427387904) (hH : Lib.hasPrefix s.data.toList [48, 120] = H) (h2 : H = true → 2 ≤ s.size) :
    Calls Tryz.prog 131 #[.string s, .string ⟨#[48, 120]⟩] w fun e w' => e = .returned (.tuple #[.string (if H then s.extract 2 s.size else s), .bool H]) ∧ w' = w := by
  have hI := fun w => cutPrefix54 s H w hs hH h2
  generalize (if H then s.extract 2 s.size else s) = X at hI
  clear hH h2
  go_enter Tryz.func131, Tryz.ntmps131
  go_wp2_with (go_at_call 134; with_reducible refine (hI _).mono ?_; rintro e w' ⟨rfl, hwe⟩; subst hwe)
  go_ret2
  exact ⟨rfl, rfl⟩

/-- What a sum that is held back tells of the whole one. -/
def Cl (v V : Nat) : Prop := (V ≤ 2147483647 → v = V) ∧ (2147483647 < V → 2147483647 < v)
theorem Cl.zero : Cl 0 0 := ⟨fun _ => rfl, fun h => by omega⟩
theorem Cl.step {v V x d n n' : Nat} (k : Nat) (hk : 1 ≤ k) (h : Cl v V) (hd : d = min x 2147483648) (e : n = v + d * k) (e' : n' = V + x * k) : Cl n n' := by
  subst e e'
  have h1 : x ≤ x * k := Nat.le_mul_of_pos_right x hk
  have h2 : d ≤ d * k := Nat.le_mul_of_pos_right d hk
  refine ⟨fun hV => ?_, fun hV => ?_⟩
  · have := h.1 (by omega)
    have hdx : d = x := by omega
    subst hdx; omega
  · by_cases hv : 2147483647 < V
    · have := h.2 hv; omega
    · have := h.1 (by omega)
      by_cases hx : x ≤ 2147483648
      · have hdx : d = x := by omega
        subst hdx; omega
      · omega
end Go.Proofs.YtnicolaphmffkaaGreatDoor
namespace Go.Proofs.YtnicolaphmffkaaGreatDoor
open Go.RowKit
set_option linter.unusedVariables false
set_option linter.unusedSimpArgs false

/-- A byte of a text: nowhere, or a first place. -/
theorem find_byte (s : ByteArray) (c : UInt8) : (∀ j (hj : j < s.size), ¬ s[j] = c) ∨ ∃ i, ∃ hi : i < s.size, s[i] = c ∧ ∀ j (hj : j < s.size), j < i → ¬ s[j] = c := by
  have key : ∀ n, n ≤ s.size → (∀ j (hj : j < s.size), j < n → ¬ s[j] = c) ∨ ∃ i, ∃ hi : i < s.size, s[i] = c ∧ ∀ j (hj : j < s.size), j < i → ¬ s[j] = c := by
    intro n
    induction n with
    | zero => intro _; exact .inl (fun j _ h => by omega)
    | succ n ih =>
      intro hn
      rcases ih (by omega) with h | h
      · by_cases e : s[n] = c
        · exact .inr ⟨n, by omega, e, h⟩
        · left
          intro j hj hjn
          by_cases e2 : j = n
          · subst e2; exact e
          · exact h j hj (by omega)
      · exact .inr h
  rcases key s.size (Nat.le_refl _) with h | h
  · exact .inl (fun j hj => h j hj hj)
  · exact .inr h

theorem mem_get (s : ByteArray) (c : UInt8) : c ∈ s.data.toList ↔ ∃ i, ∃ hi : i < s.size, s[i] = c := by
  rw [List.mem_iff_getElem]
  constructor
  · rintro ⟨i, hi, e⟩; exact ⟨i, by simpa using hi, e⟩
  · rintro ⟨i, hi, e⟩; exact ⟨i, by simpa using hi, e⟩

theorem split_at (s : ByteArray) (c : UInt8) (i : Nat) (hi : i < s.size) (e : s[i] = c) : s.data.toList = (s.extract 0 i).data.toList ++ c :: (s.extract (i + 1) s.size).data.toList := by
  rw [Lib.extract_data, Lib.extract_data]
  simp only [List.drop_zero, Nat.sub_zero]
  have h1 : (s.data.toList.drop (i + 1)).take (s.size - (i + 1)) = s.data.toList.drop (i + 1) := List.take_of_length_le (by simp)
  rw [h1, ← e]
  have h2 := List.drop_eq_getElem_cons (l := s.data.toList) (i := i) (by simpa using hi)
  have h3 : s[i] :: s.data.toList.drop (i + 1) = s.data.toList.drop i := h2.symm
  rw [h3, List.take_append_drop]

/-- A step: what is left of a duration at a text, by the first place of the unit. -/
theorem dur_step_miss (t : ByteArray) (u : UInt8) (k : Nat) (us : List (UInt8 × Nat)) (h : ∀ j (hj : j < t.size), ¬ t[j] = u) : durOf ((u, k) :: us) t.data.toList = durOf us t.data.toList :=
  dur_absent u k us _ (fun hm => by obtain ⟨i, hi, e⟩ := (mem_get t u).1 hm; exact h i hi e)

theorem dur_step_hit (t : ByteArray) (u : UInt8) (k : Nat) (us : List (UInt8 × Nat)) (hu : isD u = false) (i : Nat) (hi : i < t.size) (e : t[i] = u) (h95 : ∀ j (hj : j < t.size), ¬ t[j] = 95)
    (hok : okD 10 true true (t.extract 0 i).data.toList = true) :
    durOf ((u, k) :: us) t.data.toList = (durOf us (t.extract (i + 1) t.size).data.toList).map (valD 10 0 (t.extract 0 i).data.toList * k + ·) := by
  rw [split_at t u i hi e]
  refine dur_hit u k us _ _ hu (okD_only10 true _ true hok ?_) ?_
  · intro x hx h
    have hx' : x ∈ t.data.toList := by rw [split_at t u i hi e]; exact List.mem_append.2 (.inl hx)
    obtain ⟨j, hj, ej⟩ := (mem_get t x).1 hx'
    exact h95 j hj (by rw [ej]; exact UInt8.toNat_inj.1 h)
  · intro h; rw [h] at hok; simp [okD] at hok

theorem dur_step_ill (t : ByteArray) (u : UInt8) (k : Nat) (us : List (UInt8 × Nat)) (hu : isD u = false) (hus : u ∉ us.map (·.1)) (i : Nat) (hi : i < t.size) (e : t[i] = u) (hf : ∀ j (hj : j < t.size), j < i → ¬ t[j] = u)
    (hok : okD 10 true true (t.extract 0 i).data.toList = false) :
    durOf ((u, k) :: us) t.data.toList = none := by
  rw [split_at t u i hi e]
  refine dur_ill u k us _ _ hu ?_ ?_ hus
  · intro hm
    obtain ⟨j, hj, ej⟩ := (mem_get _ u).1 hm
    have hs : (t.extract 0 i).size = i := by simp; omega
    have : (t.extract 0 i)[j] = t[j]'(by omega) := by simp [ByteArray.getElem_extract]
    exact hf j (by omega) (by omega) (by rw [← this]; exact ej)
  · by_cases hne : (t.extract 0 i).data.toList = []
    · exact .inl hne
    · right
      apply Classical.byContradiction
      intro hno
      have hall : ∀ x ∈ (t.extract 0 i).data.toList, isD x = true := by
        intro x hx
        cases hd : isD x with
        | true => rfl
        | false => exact absurd ⟨x, hx, hd⟩ hno
      rw [okD_digits 10 true (by omega) _ true hall, if_neg hne] at hok
      cases hok

theorem no95_tail (t : ByteArray) (i : Nat) (h95 : ∀ j (hj : j < t.size), ¬ t[j] = 95) : ∀ j (hj : j < (t.extract i t.size).size), ¬ (t.extract i t.size)[j] = 95 := by
  intro j hj
  have hs : (t.extract i t.size).size = t.size - i := by simp
  have : (t.extract i t.size)[j] = t[i + j]'(by omega) := ByteArray.getElem_extract hj
  rw [this]; exact h95 _ _
end Go.Proofs.YtnicolaphmffkaaGreatDoor
namespace Go.Proofs.YtnicolaphmffkaaGreatDoor
open Go.RowKit
set_option linter.unusedVariables false
set_option linter.unusedSimpArgs false

theorem DigRes.le {O : Bool} {V M v : Nat} (h : DigRes O V M v) : v ≤ M := h.2
theorem hid_of {p : Prop} (h : p) : Hid p := h

/-- What a reader of durations tells. -/
def DurRes (R : Option Nat) (ok : Bool) (v : Nat) : Prop := ok = R.isSome ∧ ∀ V, R = some V → Cl v V

/-- A round's state: the units that are left, the text that is left, the sum so far. -/
def Dur (R : Option Nat) (us : List (UInt8 × Nat)) (t : ByteArray) (v : Nat) : Prop :=
  ∃ acc, Cl v acc ∧ (durOf us t.data.toList).map (acc + ·) = R ∧ ∀ j (hj : j < t.size), ¬ t[j] = 95

theorem Dur.miss {R : Option Nat} {us : List (UInt8 × Nat)} {t : ByteArray} {v : Nat} {u : UInt8} {k : Nat} (h : Dur R ((u, k) :: us) t v) (hm : ∀ j (hj : j < t.size), ¬ t[j] = u) : Dur R us t v := by
  obtain ⟨acc, h1, h2, h3⟩ := h
  exact ⟨acc, h1, by rw [← h2, dur_step_miss t u k us hm], h3⟩
theorem Dur.hit {R : Option Nat} {us : List (UInt8 × Nat)} {t : ByteArray} {v d n : Nat} {u : UInt8} {k : Nat} (h : Dur R ((u, k) :: us) t v) (hu : isD u = false) (hk : 1 ≤ k) (i : Nat) (hi : i < t.size) (e : t[i] = u)
    (hok : okD 10 true true (t.extract 0 i).data.toList = true) (hd : DigRes (okD 10 true true (t.extract 0 i).data.toList) (valD 10 0 (t.extract 0 i).data.toList) 2147483648 d) (hn : n = v + d * k) : Dur R us (t.extract (i + 1) t.size) n := by
  obtain ⟨acc, h1, h2, h3⟩ := h
  refine ⟨acc + valD 10 0 (t.extract 0 i).data.toList * k, h1.step k hk (hd.1 hok) hn rfl, ?_, no95_tail t _ h3⟩
  rw [← h2, dur_step_hit t u k us hu i hi e h3 hok, Option.map_map]
  congr 1; funext x; simp; omega
theorem Dur.ill {R : Option Nat} {us : List (UInt8 × Nat)} {t : ByteArray} {v : Nat} {u : UInt8} {k : Nat} (h : Dur R ((u, k) :: us) t v) (hu : isD u = false) (hus : u ∉ us.map (·.1)) (i : Nat) (hi : i < t.size) (e : t[i] = u) (hf : ∀ j (hj : j < t.size), j < i → ¬ t[j] = u)
    (hok : okD 10 true true (t.extract 0 i).data.toList = false) : R = none := by
  obtain ⟨acc, h1, h2, h3⟩ := h
  rw [← h2, dur_step_ill t u k us hu hus i hi e hf hok]; rfl
theorem Dur.done {R : Option Nat} {t : ByteArray} {v : Nat} (h : Dur R [] t v) : DurRes R t.toList.isEmpty v := by
  obtain ⟨acc, h1, h2, h3⟩ := h
  rw [Lib.toList_data]
  unfold durOf at h2
  by_cases ht : t.data.toList = []
  · rw [if_pos ht] at h2
    refine ⟨by rw [← h2, ht]; rfl, fun V hV => ?_⟩
    rw [← h2] at hV; simp at hV; rw [← hV]; exact h1
  · rw [if_neg ht] at h2
    have e : t.data.toList.isEmpty = false := by
      cases hl : t.data.toList with
      | nil => exact absurd hl ht
      | cons a l => rfl
    refine ⟨by rw [← h2, e]; rfl, fun V hV => ?_⟩
    rw [← h2] at hV; simp at hV
theorem DurRes.none {R : Option Nat} {v : Nat} (h : R = none) : DurRes R false v := ⟨by rw [h]; rfl, fun V hV => by rw [h] at hV; cases hV⟩

theorem contains95 (s : ByteArray) : decide (0 ≤ Lib.indexByte s.data.toList 95) = true ↔ ∃ i, ∃ hi : i < s.size, s[i] = 95 := by
  rcases find_byte s 95 with h | ⟨i, hi, e, hf⟩
  · rw [indexByte_miss 95 s.data.toList (fun j hj => h j (by simpa using hj))]
    simp
    exact h
  · rw [indexByte_hit 95 s.data.toList i (by simpa using hi) e (fun j hj hji => hf j (by simpa using hj) hji)]
    simp
    exact ⟨i, hi, e⟩

theorem unit0 (w : World) : (Instr.index 238 (.agg #[.string ⟨#[104]⟩, .int .i64 3600, .string ⟨#[109]⟩, .int .i64 60, .string ⟨#[115]⟩, .int .i64 1]) (.int .i64 0)).run Tryz.prog w = .ok (.agg #[.string ⟨#[104]⟩, .int .i64 3600]) w := by
  simp [Instr.index, run_underlying Tryz.underlying238, asIntOf, go_sem]
theorem unit1 (w : World) : (Instr.index 238 (.agg #[.string ⟨#[104]⟩, .int .i64 3600, .string ⟨#[109]⟩, .int .i64 60, .string ⟨#[115]⟩, .int .i64 1]) (.int .i64 1)).run Tryz.prog w = .ok (.agg #[.string ⟨#[109]⟩, .int .i64 60]) w := by
  simp [Instr.index, run_underlying Tryz.underlying238, asIntOf, go_sem]
theorem unit2 (w : World) : (Instr.index 238 (.agg #[.string ⟨#[104]⟩, .int .i64 3600, .string ⟨#[109]⟩, .int .i64 60, .string ⟨#[115]⟩, .int .i64 1]) (.int .i64 2)).run Tryz.prog w = .ok (.agg #[.string ⟨#[115]⟩, .int .i64 1]) w := by
  simp [Instr.index, run_underlying Tryz.underlying238, asIntOf, go_sem]

theorem hms_no95 (l : List UInt8) (h : (95 : UInt8) ∈ l) : durOf hms l = none := durOf_bad hms l 95 h (by decide) (by decide)

set_option maxRecDepth 100000 in
set_option maxHeartbeats 4000000 in
theorem durationValue_any (s : ByteArray) (w : World) (hs : s.size < 4611686018427387904) :
    Calls Tryz.prog 133 #[.string s] w fun e w' => (∃ (v : Nat) (ok : Bool), e = .returned (.tuple #[.int .i64 v, .bool ok]) ∧ v ≤ 9007199254740992 ∧ DurRes (durOf hms s.data.toList) ok v) ∧ Below w.heap.size w w' := by
  have hC := fun w => Tryz.strings_Contains_one s 95 w
  have hc95 := contains95 s
  by_cases h95 : ∃ i, ∃ hi : i < s.size, s[i] = 95
  · have hR : Hid (durOf hms s.data.toList = none) := hms_no95 _ ((mem_get s 95).2 h95)
    rw [hc95.2 h95] at hC
    clear hc95 h95
    generalize durOf hms s.data.toList = R at hR ⊢
    go_enter Tryz.func133, Tryz.ntmps133
    go_wp2_with (go_at_call 136; with_reducible refine (hC _).mono ?_; rintro e w' ⟨rfl, hwe⟩; subst hwe)
    go_ret2
    exact ⟨⟨0, false, rfl, by omega, DurRes.none hR.out⟩, Below.refl _ _⟩
  · have hf : decide (0 ≤ Lib.indexByte s.data.toList 95) = false := by rw [← Bool.not_eq_true, hc95]; exact h95
    rw [hf] at hC
    have hD : Hid (Dur (durOf hms s.data.toList) (hms.drop 0) s 0) := ⟨0, Cl.zero, by simp, fun j hj e => h95 ⟨j, hj, e⟩⟩
    clear hc95 h95 hf
    generalize durOf hms s.data.toList = R at hD ⊢
    go_enter Tryz.func133, Tryz.ntmps133
    go_wp2_with (go_at_call 136; with_reducible refine (hC _).mono ?_; rintro e w' ⟨rfl, hwe⟩; subst hwe)
    go_loopw [0, 4, 18] (fun ts tv ti wr => ∃ (k v : Nat) (t : ByteArray), k ≤ 3 ∧ ti = .int .i64 k ∧ tv = .int .i64 v ∧ ts = .string t ∧ t.size ≤ s.size ∧ v ≤ k * 7730941132800 ∧ Below w'.heap.size w' wr ∧ Dur R (hms.drop k) t v) (fun _ _ ti _ => 3 - (intOf ti).toNat)
    case atStart => exact ⟨0, 0, s, by omega, rfl, rfl, rfl, Nat.le_refl _, by omega, Below.refl _ _, hD.out⟩
    case round =>
      obtain ⟨k, v, t, hk, rfl, rfl, rfl, hts, hv, hB, hd⟩ := hrel
      have hts2 : t.size < 4611686018427387904 := by omega
      have hk' : k = 0 ∨ k = 1 ∨ k = 2 ∨ k = 3 := by omega
      rcases hk' with rfl | rfl | rfl | rfl
      · have hU := unit0
        have hv' : v ≤ 0 := by omega
        rcases find_byte t 104 with hm | ⟨i, hi, he, hf⟩
        · have hCut := fun w => cut_miss t 104 w hts2 hm
          have HD : Hid (Dur R (hms.drop 1) t v) := hd.miss hm
          clear hd hm
          go_wp2_with (go_at_call 137; with_reducible refine (hCut _).mono ?_; rintro e w1 ⟨rfl, n, hwe⟩; subst hwe)
          go_roundw
          case rel => exact ⟨1, v, t, by omega, by go_num, rfl, rfl, hts, by omega, bel_drewN (hB.alloc hB.size _), HD.out⟩
          case measure => simp [intOf]
        · have hCut := fun w => cut_hit t 104 i hi w hts2 he hf
          have hDg := fun w => digitsValue10 (t.extract 0 i) w (by simp; omega)
          have hle : (t.extract (i + 1) t.size).size ≤ s.size := by simp; omega
          cases hok : okD 10 true true (t.extract 0 i).data.toList with
          | true =>
            have HD : Hid (∀ d n, DigRes true (valD 10 0 (t.extract 0 i).data.toList) 2147483648 d → n = v + d * 3600 → Dur R (hms.drop 1) (t.extract (i + 1) t.size) n) := fun d n h1 h2 => hd.hit (by decide) (by omega) i hi he hok (by rw [hok]; exact h1) h2
            rw [hok] at hDg
            clear hd hok hf he
            generalize valD 10 0 (t.extract 0 i).data.toList = X at hDg HD
            generalize t.extract 0 i = T0 at hDg hCut
            generalize t.extract (i + 1) t.size = T1 at hCut HD hle
            go_wp2_with (first
              | (go_at_call 137; with_reducible refine (hCut _).mono ?_; rintro e w1 ⟨rfl, n, hwe⟩; subst hwe)
              | (go_at_call 132; with_reducible refine (hDg _).mono ?_; rintro e w2 ⟨⟨d, rfl, hdr⟩, hwe⟩; subst hwe; have hd2 := DigRes.le hdr; have HR := hid_of hdr; clear hdr))
            go_roundw
            case rel => exact ⟨1, v + d * 3600, T1, by omega, by go_num, by go_num, rfl, hle, by omega, bel_drewN (hB.alloc hB.size _), HD.out d _ HR.out rfl⟩
            case measure => simp [intOf]
          | false =>
            have HN : Hid (R = none) := hd.ill (by decide) (by decide) i hi he hf hok
            rw [hok] at hDg
            clear hd hok hf he
            generalize valD 10 0 (t.extract 0 i).data.toList = X at hDg
            generalize t.extract 0 i = T0 at hDg hCut
            generalize t.extract (i + 1) t.size = T1 at hCut hle
            go_wp2_with (first
              | (go_at_call 137; with_reducible refine (hCut _).mono ?_; rintro e w1 ⟨rfl, n, hwe⟩; subst hwe)
              | (go_at_call 132; with_reducible refine (hDg _).mono ?_; rintro e w2 ⟨⟨d, rfl, hdr⟩, hwe⟩; subst hwe; clear hdr))
            go_ret2
            exact ⟨⟨0, false, rfl, by omega, DurRes.none HN.out⟩, bel_drewN (hB.alloc hB.size _)⟩
      · have hU := unit1
        have hv' : v ≤ 7730941132800 := by omega
        rcases find_byte t 109 with hm | ⟨i, hi, he, hf⟩
        · have hCut := fun w => cut_miss t 109 w hts2 hm
          have HD : Hid (Dur R (hms.drop 2) t v) := hd.miss hm
          clear hd hm
          go_wp2_with (go_at_call 137; with_reducible refine (hCut _).mono ?_; rintro e w1 ⟨rfl, n, hwe⟩; subst hwe)
          go_roundw
          case rel => exact ⟨2, v, t, by omega, by go_num, rfl, rfl, hts, by omega, bel_drewN (hB.alloc hB.size _), HD.out⟩
          case measure => simp [intOf]
        · have hCut := fun w => cut_hit t 109 i hi w hts2 he hf
          have hDg := fun w => digitsValue10 (t.extract 0 i) w (by simp; omega)
          have hle : (t.extract (i + 1) t.size).size ≤ s.size := by simp; omega
          cases hok : okD 10 true true (t.extract 0 i).data.toList with
          | true =>
            have HD : Hid (∀ d n, DigRes true (valD 10 0 (t.extract 0 i).data.toList) 2147483648 d → n = v + d * 60 → Dur R (hms.drop 2) (t.extract (i + 1) t.size) n) := fun d n h1 h2 => hd.hit (by decide) (by omega) i hi he hok (by rw [hok]; exact h1) h2
            rw [hok] at hDg
            clear hd hok hf he
            generalize valD 10 0 (t.extract 0 i).data.toList = X at hDg HD
            generalize t.extract 0 i = T0 at hDg hCut
            generalize t.extract (i + 1) t.size = T1 at hCut HD hle
            go_wp2_with (first
              | (go_at_call 137; with_reducible refine (hCut _).mono ?_; rintro e w1 ⟨rfl, n, hwe⟩; subst hwe)
              | (go_at_call 132; with_reducible refine (hDg _).mono ?_; rintro e w2 ⟨⟨d, rfl, hdr⟩, hwe⟩; subst hwe; have hd2 := DigRes.le hdr; have HR := hid_of hdr; clear hdr))
            go_roundw
            case rel => exact ⟨2, v + d * 60, T1, by omega, by go_num, by go_num, rfl, hle, by omega, bel_drewN (hB.alloc hB.size _), HD.out d _ HR.out rfl⟩
            case measure => simp [intOf]
          | false =>
            have HN : Hid (R = none) := hd.ill (by decide) (by decide) i hi he hf hok
            rw [hok] at hDg
            clear hd hok hf he
            generalize valD 10 0 (t.extract 0 i).data.toList = X at hDg
            generalize t.extract 0 i = T0 at hDg hCut
            generalize t.extract (i + 1) t.size = T1 at hCut hle
            go_wp2_with (first
              | (go_at_call 137; with_reducible refine (hCut _).mono ?_; rintro e w1 ⟨rfl, n, hwe⟩; subst hwe)
              | (go_at_call 132; with_reducible refine (hDg _).mono ?_; rintro e w2 ⟨⟨d, rfl, hdr⟩, hwe⟩; subst hwe; clear hdr))
            go_ret2
            exact ⟨⟨0, false, rfl, by omega, DurRes.none HN.out⟩, bel_drewN (hB.alloc hB.size _)⟩
      · have hU := unit2
        have hv' : v ≤ 15461882265600 := by omega
        rcases find_byte t 115 with hm | ⟨i, hi, he, hf⟩
        · have hCut := fun w => cut_miss t 115 w hts2 hm
          have HD : Hid (Dur R (hms.drop 3) t v) := hd.miss hm
          clear hd hm
          go_wp2_with (go_at_call 137; with_reducible refine (hCut _).mono ?_; rintro e w1 ⟨rfl, n, hwe⟩; subst hwe)
          go_roundw
          case rel => exact ⟨3, v, t, by omega, by go_num, rfl, rfl, hts, by omega, bel_drewN (hB.alloc hB.size _), HD.out⟩
          case measure => simp [intOf]
        · have hCut := fun w => cut_hit t 115 i hi w hts2 he hf
          have hDg := fun w => digitsValue10 (t.extract 0 i) w (by simp; omega)
          have hle : (t.extract (i + 1) t.size).size ≤ s.size := by simp; omega
          cases hok : okD 10 true true (t.extract 0 i).data.toList with
          | true =>
            have HD : Hid (∀ d n, DigRes true (valD 10 0 (t.extract 0 i).data.toList) 2147483648 d → n = v + d * 1 → Dur R (hms.drop 3) (t.extract (i + 1) t.size) n) := fun d n h1 h2 => hd.hit (by decide) (by omega) i hi he hok (by rw [hok]; exact h1) h2
            rw [hok] at hDg
            clear hd hok hf he
            generalize valD 10 0 (t.extract 0 i).data.toList = X at hDg HD
            generalize t.extract 0 i = T0 at hDg hCut
            generalize t.extract (i + 1) t.size = T1 at hCut HD hle
            go_wp2_with (first
              | (go_at_call 137; with_reducible refine (hCut _).mono ?_; rintro e w1 ⟨rfl, n, hwe⟩; subst hwe)
              | (go_at_call 132; with_reducible refine (hDg _).mono ?_; rintro e w2 ⟨⟨d, rfl, hdr⟩, hwe⟩; subst hwe; have hd2 := DigRes.le hdr; have HR := hid_of hdr; clear hdr))
            go_roundw
            case rel => exact ⟨3, v + d * 1, T1, by omega, by go_num, by go_num, rfl, hle, by omega, bel_drewN (hB.alloc hB.size _), HD.out d _ HR.out rfl⟩
            case measure => simp [intOf]
          | false =>
            have HN : Hid (R = none) := hd.ill (by decide) (by decide) i hi he hf hok
            rw [hok] at hDg
            clear hd hok hf he
            generalize valD 10 0 (t.extract 0 i).data.toList = X at hDg
            generalize t.extract 0 i = T0 at hDg hCut
            generalize t.extract (i + 1) t.size = T1 at hCut hle
            go_wp2_with (first
              | (go_at_call 137; with_reducible refine (hCut _).mono ?_; rintro e w1 ⟨rfl, n, hwe⟩; subst hwe)
              | (go_at_call 132; with_reducible refine (hDg _).mono ?_; rintro e w2 ⟨⟨d, rfl, hdr⟩, hwe⟩; subst hwe; clear hdr))
            go_ret2
            exact ⟨⟨0, false, rfl, by omega, DurRes.none HN.out⟩, bel_drewN (hB.alloc hB.size _)⟩
      · have HD : Hid (DurRes R t.toList.isEmpty v) := hd.done
        clear hd
        go_wp2
        go_ret2
        exact ⟨⟨v, _, rfl, by omega, by exact HD.out⟩, hB⟩
end Go.Proofs.YtnicolaphmffkaaGreatDoor
namespace Go.Proofs.YtnicolaphmffkaaGreatDoor
open Go.RowKit
set_option linter.unusedVariables false
set_option linter.unusedSimpArgs false

theorem span_at (s : ByteArray) (i q : Nat) (hiq : i ≤ q) (hq : q ≤ s.size) (hall : ∀ j (hj : j < s.size), i ≤ j → j < q → isD s[j] = true) (hend : q = s.size ∨ ∃ h : q < s.size, isD s[q] = false) :
    (s.data.toList.drop i).takeWhile isD = (s.extract i q).data.toList ∧ (s.data.toList.drop i).dropWhile isD = s.data.toList.drop q := by
  have e : s.data.toList.drop i = (s.extract i q).data.toList ++ s.data.toList.drop q := by
    rw [Lib.extract_data]
    have h2 := List.take_append_drop (q - i) (s.data.toList.drop i)
    rw [List.drop_drop] at h2
    have : i + (q - i) = q := by omega
    rw [this] at h2
    exact h2.symm
  have hd : ∀ x ∈ (s.extract i q).data.toList, isD x = true := by
    intro x hx
    obtain ⟨j, hj, ej⟩ := (mem_get _ x).1 hx
    have hs : (s.extract i q).size = q - i := by simp; omega
    have : (s.extract i q)[j] = s[i + j]'(by omega) := ByteArray.getElem_extract hj
    rw [← ej, this]; exact hall _ _ (by omega) (by omega)
  have hdrop : (s.data.toList.drop q).takeWhile isD = [] ∧ (s.data.toList.drop q).dropWhile isD = s.data.toList.drop q := by
    rcases hend with h | ⟨h, hn⟩
    · rw [drop_end s q (by omega)]; exact ⟨rfl, rfl⟩
    · rw [drop_get s q h]
      exact ⟨List.takeWhile_cons_of_neg (by simp [hn]), List.dropWhile_cons_of_neg (by simp [hn])⟩
  rw [e, List.takeWhile_append_of_pos hd, List.dropWhile_append_of_pos hd, hdrop.1, hdrop.2]
  simp

/-- The reference's state: what is left from place i on. -/
def DurI (R : Option Nat) (us : List (UInt8 × Nat)) (s : ByteArray) (i v : Nat) : Prop := ∃ acc, Cl v acc ∧ (durOf us (s.data.toList.drop i)).map (acc + ·) = R

theorem Cl.step2 {v V x d n n' : Nat} (k : Nat) (hk : 1 ≤ k) (h : Cl v V) (hd : d = min x 1099511627776) (e : n = min (v + d * k) 1099511627776) (e' : n' = V + x * k) : Cl n n' := by
  subst e e'
  have h1 : x ≤ x * k := Nat.le_mul_of_pos_right x hk
  have h2 : d ≤ d * k := Nat.le_mul_of_pos_right d hk
  refine ⟨fun hV => ?_, fun hV => ?_⟩
  · have := h.1 (by omega)
    have hdx : d = x := by omega
    subst hdx; omega
  · by_cases hv : 2147483647 < V
    · have := h.2 hv; omega
    · have := h.1 (by omega)
      by_cases hx : x ≤ 1099511627776
      · have hdx : d = x := by omega
        subst hdx; omega
      · omega

theorem DurI.skip {R : Option Nat} {us : List (UInt8 × Nat)} {s : ByteArray} {i q v : Nat} {u : UInt8} {k : Nat} (h : DurI R ((u, k) :: us) s i v) (hiq : i ≤ q) (hq : q ≤ s.size) (hall : ∀ j (hj : j < s.size), i ≤ j → j < q → isD s[j] = true)
    (hend : q = s.size ∨ ∃ h : q < s.size, isD s[q] = false) (hno : q = i ∨ q = s.size ∨ ∃ h : q < s.size, ¬ s[q] = u) : DurI R us s i v := by
  obtain ⟨acc, h1, h2⟩ := h
  refine ⟨acc, h1, ?_⟩
  obtain ⟨e1, e2⟩ := span_at s i q hiq hq hall hend
  rw [← h2, durOf, e1, e2, if_neg]
  rintro ⟨h3, h4⟩
  rcases hno with h | h | ⟨h, hn⟩
  · apply h3; rw [Lib.extract_data, h]; simp
  · rw [drop_end s q (by omega)] at h4; simp at h4
  · rw [drop_get s q h] at h4; simp at h4; exact hn h4

theorem DurI.take {R : Option Nat} {us : List (UInt8 × Nat)} {s : ByteArray} {i q v d n : Nat} {u : UInt8} {k : Nat} (h : DurI R ((u, k) :: us) s i v) (hiq : i < q) (hq : q < s.size) (hall : ∀ j (hj : j < s.size), i ≤ j → j < q → isD s[j] = true)
    (hu : isD u = false) (e : s[q] = u) (hk : 1 ≤ k) (hd : d = min (valD 10 0 (s.extract i q).data.toList) 1099511627776) (hn : n = min (v + d * k) 1099511627776) : DurI R us s (q + 1) n := by
  obtain ⟨acc, h1, h2⟩ := h
  obtain ⟨e1, e2⟩ := span_at s i q (by omega) (by omega) hall (.inr ⟨hq, by rw [e]; exact hu⟩)
  refine ⟨acc + valD 10 0 (s.extract i q).data.toList * k, h1.step2 k hk hd hn rfl, ?_⟩
  have e3 : (s.data.toList.drop q).tail = s.data.toList.drop (q + 1) := by rw [drop_get s q hq]; rfl
  have e4 : (s.data.toList.drop q).head? = some u := by rw [drop_get s q hq, e]; rfl
  have e5 : (s.extract i q).data.toList ≠ [] := by
    intro h
    have h6 : (s.extract i q).data.toList.length = q - i := by rw [Lib.extract_data]; simp; omega
    rw [h] at h6; simp at h6; omega
  rw [← h2, durOf, e1, e2, if_pos ⟨e5, e4⟩, e3, Option.map_map]
  congr 1; funext x; simp; omega

theorem digits_all (s : ByteArray) (i q : Nat) (hiq : i < q) (hq : q ≤ s.size) (hall : ∀ j (hj : j < s.size), i ≤ j → j < q → isD s[j] = true) : okD 10 false true (s.extract i q).data.toList = true := by
  have hd : ∀ x ∈ (s.extract i q).data.toList, isD x = true := by
    intro x hx
    obtain ⟨j, hj, ej⟩ := (mem_get _ x).1 hx
    have hs : (s.extract i q).size = q - i := by simp; omega
    have : (s.extract i q)[j] = s[i + j]'(by omega) := ByteArray.getElem_extract hj
    rw [← ej, this]; exact hall _ _ (by omega) (by omega)
  have e5 : (s.extract i q).data.toList ≠ [] := by
    intro h
    have h6 : (s.extract i q).data.toList.length = q - i := by rw [Lib.extract_data]; simp; omega
    rw [h] at h6; simp at h6; omega
  rw [okD_digits 10 false (by omega) _ true hd, if_neg e5]

theorem DurI.done {R : Option Nat} {s : ByteArray} {i v : Nat} (h : DurI R [] s i v) (hi : i ≤ s.size) : DurRes R (decide (i = s.size)) v := by
  obtain ⟨acc, h1, h2⟩ := h
  unfold durOf at h2
  have e : (s.data.toList.drop i = []) ↔ i = s.size := by
    rw [List.drop_eq_nil_iff]
    have : s.data.toList.length = s.size := by simp
    omega
  by_cases ht : i = s.size
  · rw [if_pos (e.2 ht)] at h2
    refine ⟨by rw [← h2]; simp [ht], fun V hV => ?_⟩
    rw [← h2] at hV; simp at hV; rw [← hV]; exact h1
  · rw [if_neg (fun h => ht (e.1 h))] at h2
    refine ⟨by rw [← h2]; simp [ht], fun V hV => ?_⟩
    rw [← h2] at hV; simp at hV
end Go.Proofs.YtnicolaphmffkaaGreatDoor
namespace Go.Proofs.YtnicolaphmffkaaGreatDoor
open Go.RowKit
set_option linter.unusedVariables false
set_option linter.unusedSimpArgs false

set_option maxRecDepth 100000 in
set_option maxHeartbeats 8000000 in
theorem duration_any (s : ByteArray) (w : World) (hs : s.size < 4611686018427387904) (hne : 0 < s.size) :
    Calls Tryz.prog 117 #[.string s] w fun e w' => (∃ (v : Nat) (ok : Bool), e = .returned (.tuple #[.int .i64 v, .bool ok]) ∧ v ≤ 1099511627776 ∧ DurRes (durOf hms s.data.toList) ok v) ∧ Below w.heap.size w w' := by
  have hD : Hid (DurI (durOf hms s.data.toList) (hms.drop 0) s 0 0) := ⟨0, Cl.zero, by simp⟩
  generalize durOf hms s.data.toList = R at hD ⊢
  go_enter Tryz.func117, Tryz.ntmps117
  go_wp2
  go_loopw [6, 7, 8] (fun tn ti tk wr => ∃ (k i n : Nat) (K : Int), K = k ∧ k ≤ 3 ∧ i ≤ s.size ∧ n ≤ 1099511627776 ∧ tn = .int .i64 n ∧ ti = .int .i64 i ∧ tk = .int .i64 K ∧ Has wr w.heap.size #[.int .i64 3600, .int .i64 60, .int .i64 1] ∧ Below w.heap.size w wr ∧ DurI R (hms.drop k) s i n) (fun _ _ tk _ => 3 - (intOf tk).toNat)
  case atStart => exact ⟨0, 0, 0, 0, rfl, by omega, by omega, by omega, rfl, rfl, rfl, Has.new _ _ _ rfl, (Below.refl _ _).alloc (Nat.le_refl _) _, hD.out⟩
  case round =>
    obtain ⟨k, i, n, K, hK, hk, hi, hn, rfl, rfl, rfl, hH, hB, hd⟩ := hrel
    obtain ⟨x0, X1, x2⟩ := id hH
    have hk' : (k = 0 ∧ K = 0) ∨ (k = 1 ∧ K = 1) ∨ (k = 2 ∧ K = 2) ∨ (k = 3 ∧ K = 3) := by omega
    clear hK
    rcases hk' with ⟨rfl, rfl⟩ | ⟨rfl, rfl⟩ | ⟨rfl, rfl⟩ | ⟨rfl, rfl⟩
    · have HD0 : Hid (DurI R ((104, 3600) :: hms.drop 1) s i n) := hd
      clear hd
      go_wp2
      go_loop [9] (fun tj => ∃ q : Nat, i ≤ q ∧ q ≤ s.size ∧ tj = .int .i64 q ∧ ∀ j (hj : j < s.size), i ≤ j → j < q → isD s[j] = true) (fun tj => s.size - (intOf tj).toNat)
      case atStart => exact ⟨i, Nat.le_refl _, hi, rfl, fun j hj h1 h2 => by omega⟩
      case round =>
        obtain ⟨q, hiq, hq, rfl, hall⟩ := hrel
        have HA : Hid (∀ j (hj : j < s.size), i ≤ j → j < q → isD s[j] = true) := hall
        clear hall
        by_cases hlt : q < s.size
        · have hDg := fun w => digit_any s[q] w
          by_cases hdq : isD s[q] = true
          · have HQ : Hid (isD s[q] = true) := hdq
            rw [hdq] at hDg
            clear hdq
            go_wp2_with (go_at_call 125; with_reducible refine (hDg _).mono ?_; rintro e w' ⟨rfl, hwe⟩; subst hwe)
            go_round
            case rel => exact ⟨q + 1, by omega, by omega, by go_num, fun j hj h1 h2 => by
              by_cases e : j = q
              · subst e; exact HQ.out
              · exact HA.out j hj h1 (by omega)⟩
            case measure => simp [intOf]; omega
          · have hf : isD s[q] = false := by simpa using hdq
            have HQ : Hid (isD s[q] = false) := hf
            rw [hf] at hDg
            clear hdq hf
            by_cases hiq2 : i < q
            · have hiq2' : (i : Int) < (q : Int) := by omega
              by_cases hu : (s[q].toNat : Int) = 104
              · have hue : s[q] = 104 := by apply UInt8.toNat_inj.1; show s[q].toNat = 104; omega
                have hok := digits_all s i q hiq2 hq HA.out
                have hDs := fun w => digits10 (s.extract i q) false w (by simp; omega)
                rw [hok] at hDs
                have HT : Hid (∀ d n', DigRes true (valD 10 0 (s.extract i q).data.toList) 1099511627776 d → n' = min (n + d * 3600) 1099511627776 → DurI R (hms.drop 1) s (q + 1) n') := fun d n' h1 h2 => HD0.out.take hiq2 hlt HA.out (by decide) hue (by omega) (h1.1 rfl) h2
                simp only [hu] at hDg
                clear hok hue
                generalize valD 10 0 (s.extract i q).data.toList = X at hDs HT
                go_wp2_with (go_at_call 125; with_reducible refine (hDg _).mono ?_; rintro e w' ⟨rfl, hwe⟩; subst hwe)
                go_quiet (fail)
                have hHq := hH.drewN nq
                have hBq := bel_drewN (n := nq) hB
                obtain ⟨y0, Y1, y2⟩ := id hHq
                go_wp2_with (go_at_call 116; with_reducible refine (hDs _).mono ?_; rintro e w2 ⟨⟨d, rfl, hdr⟩, hwe⟩; subst hwe; have hd2 := DigRes.le hdr; have HR := hid_of hdr; clear hdr)
                · go_roundw
                  case rel => exact ⟨1, q + 1, 1099511627776, 1, by omega, by omega, by omega, by omega, by go_num, by go_num, by go_num, hHq, hBq, HT.out d _ HR.out (by omega)⟩
                  case measure => simp [intOf]
                · go_roundw
                  case rel => exact ⟨1, q + 1, n + d * 3600, 1, by omega, by omega, by omega, by omega, by go_num, by go_num, by go_num, hHq, hBq, HT.out d _ HR.out (by omega)⟩
                  case measure => simp [intOf]
              · have hbyte : ((ByteArray.mk #[104, 109, 115])[0]'(by decide)).toNat = 104 := rfl
                have HS : Hid (DurI R (hms.drop 1) s i n) := HD0.out.skip hiq hq HA.out (.inr ⟨hlt, HQ.out⟩) (.inr (.inr ⟨hlt, fun e => hu (by rw [e]; rfl)⟩))
                go_wp2_with (go_at_call 125; with_reducible refine (hDg _).mono ?_; rintro e w' ⟨rfl, hwe⟩; subst hwe)
                go_quiet (fail)
                go_wp2
                go_roundw
                case rel => exact ⟨1, i, n, 1, by omega, by omega, hi, hn, rfl, rfl, by go_num, hH.drewN _, bel_drewN hB, HS.out⟩
                case measure => simp [intOf]
            · have hiq2' : ¬ (i : Int) < (q : Int) := by omega
              have HS : Hid (DurI R (hms.drop 1) s i n) := HD0.out.skip hiq hq HA.out (.inr ⟨hlt, HQ.out⟩) (.inl (by omega))
              go_wp2_with (go_at_call 125; with_reducible refine (hDg _).mono ?_; rintro e w' ⟨rfl, hwe⟩; subst hwe)
              go_quiet (fail)
              go_wp2
              go_roundw
              case rel => exact ⟨1, i, n, 1, by omega, by omega, hi, hn, rfl, rfl, by go_num, hH.drewN _, bel_drewN hB, HS.out⟩
              case measure => simp [intOf]
        · have HS : Hid (DurI R (hms.drop 1) s i n) := HD0.out.skip hiq hq HA.out (.inl (by omega)) (.inr (.inl (by omega)))
          have hlt' : ¬ (q : Int) < (s.size : Int) := by omega
          by_cases hiq2 : i < q
          · have hiq2' : (i : Int) < (q : Int) := by omega
            go_wp2
            go_quiet (fail)
            go_wp2
            go_roundw
            case rel => exact ⟨1, i, n, 1, by omega, by omega, hi, hn, rfl, rfl, by go_num, hH.drewN _, bel_drewN hB, HS.out⟩
            case measure => simp [intOf]
          · have hiq2' : ¬ (i : Int) < (q : Int) := by omega
            go_wp2
            go_quiet (fail)
            go_wp2
            go_roundw
            case rel => exact ⟨1, i, n, 1, by omega, by omega, hi, hn, rfl, rfl, by go_num, hH.drewN _, bel_drewN hB, HS.out⟩
            case measure => simp [intOf]
    · have HD0 : Hid (DurI R ((109, 60) :: hms.drop 2) s i n) := hd
      clear hd
      go_wp2
      go_loop [9] (fun tj => ∃ q : Nat, i ≤ q ∧ q ≤ s.size ∧ tj = .int .i64 q ∧ ∀ j (hj : j < s.size), i ≤ j → j < q → isD s[j] = true) (fun tj => s.size - (intOf tj).toNat)
      case atStart => exact ⟨i, Nat.le_refl _, hi, rfl, fun j hj h1 h2 => by omega⟩
      case round =>
        obtain ⟨q, hiq, hq, rfl, hall⟩ := hrel
        have HA : Hid (∀ j (hj : j < s.size), i ≤ j → j < q → isD s[j] = true) := hall
        clear hall
        by_cases hlt : q < s.size
        · have hDg := fun w => digit_any s[q] w
          by_cases hdq : isD s[q] = true
          · have HQ : Hid (isD s[q] = true) := hdq
            rw [hdq] at hDg
            clear hdq
            go_wp2_with (go_at_call 125; with_reducible refine (hDg _).mono ?_; rintro e w' ⟨rfl, hwe⟩; subst hwe)
            go_round
            case rel => exact ⟨q + 1, by omega, by omega, by go_num, fun j hj h1 h2 => by
              by_cases e : j = q
              · subst e; exact HQ.out
              · exact HA.out j hj h1 (by omega)⟩
            case measure => simp [intOf]; omega
          · have hf : isD s[q] = false := by simpa using hdq
            have HQ : Hid (isD s[q] = false) := hf
            rw [hf] at hDg
            clear hdq hf
            by_cases hiq2 : i < q
            · have hiq2' : (i : Int) < (q : Int) := by omega
              by_cases hu : (s[q].toNat : Int) = 109
              · have hue : s[q] = 109 := by apply UInt8.toNat_inj.1; show s[q].toNat = 109; omega
                have hok := digits_all s i q hiq2 hq HA.out
                have hDs := fun w => digits10 (s.extract i q) false w (by simp; omega)
                rw [hok] at hDs
                have HT : Hid (∀ d n', DigRes true (valD 10 0 (s.extract i q).data.toList) 1099511627776 d → n' = min (n + d * 60) 1099511627776 → DurI R (hms.drop 2) s (q + 1) n') := fun d n' h1 h2 => HD0.out.take hiq2 hlt HA.out (by decide) hue (by omega) (h1.1 rfl) h2
                simp only [hu] at hDg
                clear hok hue
                generalize valD 10 0 (s.extract i q).data.toList = X at hDs HT
                go_wp2_with (go_at_call 125; with_reducible refine (hDg _).mono ?_; rintro e w' ⟨rfl, hwe⟩; subst hwe)
                go_quiet (fail)
                have hHq := hH.drewN nq
                have hBq := bel_drewN (n := nq) hB
                obtain ⟨y0, Y1, y2⟩ := id hHq
                go_wp2_with (go_at_call 116; with_reducible refine (hDs _).mono ?_; rintro e w2 ⟨⟨d, rfl, hdr⟩, hwe⟩; subst hwe; have hd2 := DigRes.le hdr; have HR := hid_of hdr; clear hdr)
                · go_roundw
                  case rel => exact ⟨2, q + 1, 1099511627776, 2, by omega, by omega, by omega, by omega, by go_num, by go_num, by go_num, hHq, hBq, HT.out d _ HR.out (by omega)⟩
                  case measure => simp [intOf]
                · go_roundw
                  case rel => exact ⟨2, q + 1, n + d * 60, 2, by omega, by omega, by omega, by omega, by go_num, by go_num, by go_num, hHq, hBq, HT.out d _ HR.out (by omega)⟩
                  case measure => simp [intOf]
              · have hbyte : ((ByteArray.mk #[104, 109, 115])[1]'(by decide)).toNat = 109 := rfl
                have HS : Hid (DurI R (hms.drop 2) s i n) := HD0.out.skip hiq hq HA.out (.inr ⟨hlt, HQ.out⟩) (.inr (.inr ⟨hlt, fun e => hu (by rw [e]; rfl)⟩))
                go_wp2_with (go_at_call 125; with_reducible refine (hDg _).mono ?_; rintro e w' ⟨rfl, hwe⟩; subst hwe)
                go_quiet (fail)
                go_wp2
                go_roundw
                case rel => exact ⟨2, i, n, 2, by omega, by omega, hi, hn, rfl, rfl, by go_num, hH.drewN _, bel_drewN hB, HS.out⟩
                case measure => simp [intOf]
            · have hiq2' : ¬ (i : Int) < (q : Int) := by omega
              have HS : Hid (DurI R (hms.drop 2) s i n) := HD0.out.skip hiq hq HA.out (.inr ⟨hlt, HQ.out⟩) (.inl (by omega))
              go_wp2_with (go_at_call 125; with_reducible refine (hDg _).mono ?_; rintro e w' ⟨rfl, hwe⟩; subst hwe)
              go_quiet (fail)
              go_wp2
              go_roundw
              case rel => exact ⟨2, i, n, 2, by omega, by omega, hi, hn, rfl, rfl, by go_num, hH.drewN _, bel_drewN hB, HS.out⟩
              case measure => simp [intOf]
        · have HS : Hid (DurI R (hms.drop 2) s i n) := HD0.out.skip hiq hq HA.out (.inl (by omega)) (.inr (.inl (by omega)))
          have hlt' : ¬ (q : Int) < (s.size : Int) := by omega
          by_cases hiq2 : i < q
          · have hiq2' : (i : Int) < (q : Int) := by omega
            go_wp2
            go_quiet (fail)
            go_wp2
            go_roundw
            case rel => exact ⟨2, i, n, 2, by omega, by omega, hi, hn, rfl, rfl, by go_num, hH.drewN _, bel_drewN hB, HS.out⟩
            case measure => simp [intOf]
          · have hiq2' : ¬ (i : Int) < (q : Int) := by omega
            go_wp2
            go_quiet (fail)
            go_wp2
            go_roundw
            case rel => exact ⟨2, i, n, 2, by omega, by omega, hi, hn, rfl, rfl, by go_num, hH.drewN _, bel_drewN hB, HS.out⟩
            case measure => simp [intOf]
    · have HD0 : Hid (DurI R ((115, 1) :: hms.drop 3) s i n) := hd
      clear hd
      go_wp2
      go_loop [9] (fun tj => ∃ q : Nat, i ≤ q ∧ q ≤ s.size ∧ tj = .int .i64 q ∧ ∀ j (hj : j < s.size), i ≤ j → j < q → isD s[j] = true) (fun tj => s.size - (intOf tj).toNat)
      case atStart => exact ⟨i, Nat.le_refl _, hi, rfl, fun j hj h1 h2 => by omega⟩
      case round =>
        obtain ⟨q, hiq, hq, rfl, hall⟩ := hrel
        have HA : Hid (∀ j (hj : j < s.size), i ≤ j → j < q → isD s[j] = true) := hall
        clear hall
        by_cases hlt : q < s.size
        · have hDg := fun w => digit_any s[q] w
          by_cases hdq : isD s[q] = true
          · have HQ : Hid (isD s[q] = true) := hdq
            rw [hdq] at hDg
            clear hdq
            go_wp2_with (go_at_call 125; with_reducible refine (hDg _).mono ?_; rintro e w' ⟨rfl, hwe⟩; subst hwe)
            go_round
            case rel => exact ⟨q + 1, by omega, by omega, by go_num, fun j hj h1 h2 => by
              by_cases e : j = q
              · subst e; exact HQ.out
              · exact HA.out j hj h1 (by omega)⟩
            case measure => simp [intOf]; omega
          · have hf : isD s[q] = false := by simpa using hdq
            have HQ : Hid (isD s[q] = false) := hf
            rw [hf] at hDg
            clear hdq hf
            by_cases hiq2 : i < q
            · have hiq2' : (i : Int) < (q : Int) := by omega
              by_cases hu : (s[q].toNat : Int) = 115
              · have hue : s[q] = 115 := by apply UInt8.toNat_inj.1; show s[q].toNat = 115; omega
                have hok := digits_all s i q hiq2 hq HA.out
                have hDs := fun w => digits10 (s.extract i q) false w (by simp; omega)
                rw [hok] at hDs
                have HT : Hid (∀ d n', DigRes true (valD 10 0 (s.extract i q).data.toList) 1099511627776 d → n' = min (n + d * 1) 1099511627776 → DurI R (hms.drop 3) s (q + 1) n') := fun d n' h1 h2 => HD0.out.take hiq2 hlt HA.out (by decide) hue (by omega) (h1.1 rfl) h2
                simp only [hu] at hDg
                clear hok hue
                generalize valD 10 0 (s.extract i q).data.toList = X at hDs HT
                go_wp2_with (go_at_call 125; with_reducible refine (hDg _).mono ?_; rintro e w' ⟨rfl, hwe⟩; subst hwe)
                go_quiet (fail)
                have hHq := hH.drewN nq
                have hBq := bel_drewN (n := nq) hB
                obtain ⟨y0, Y1, y2⟩ := id hHq
                go_wp2_with (go_at_call 116; with_reducible refine (hDs _).mono ?_; rintro e w2 ⟨⟨d, rfl, hdr⟩, hwe⟩; subst hwe; have hd2 := DigRes.le hdr; have HR := hid_of hdr; clear hdr)
                · go_roundw
                  case rel => exact ⟨3, q + 1, 1099511627776, 3, by omega, by omega, by omega, by omega, by go_num, by go_num, by go_num, hHq, hBq, HT.out d _ HR.out (by omega)⟩
                  case measure => simp [intOf]
                · go_roundw
                  case rel => exact ⟨3, q + 1, n + d * 1, 3, by omega, by omega, by omega, by omega, by go_num, by go_num, by go_num, hHq, hBq, HT.out d _ HR.out (by omega)⟩
                  case measure => simp [intOf]
              · have hbyte : ((ByteArray.mk #[104, 109, 115])[2]'(by decide)).toNat = 115 := rfl
                have HS : Hid (DurI R (hms.drop 3) s i n) := HD0.out.skip hiq hq HA.out (.inr ⟨hlt, HQ.out⟩) (.inr (.inr ⟨hlt, fun e => hu (by rw [e]; rfl)⟩))
                go_wp2_with (go_at_call 125; with_reducible refine (hDg _).mono ?_; rintro e w' ⟨rfl, hwe⟩; subst hwe)
                go_quiet (fail)
                go_wp2
                go_roundw
                case rel => exact ⟨3, i, n, 3, by omega, by omega, hi, hn, rfl, rfl, by go_num, hH.drewN _, bel_drewN hB, HS.out⟩
                case measure => simp [intOf]
            · have hiq2' : ¬ (i : Int) < (q : Int) := by omega
              have HS : Hid (DurI R (hms.drop 3) s i n) := HD0.out.skip hiq hq HA.out (.inr ⟨hlt, HQ.out⟩) (.inl (by omega))
              go_wp2_with (go_at_call 125; with_reducible refine (hDg _).mono ?_; rintro e w' ⟨rfl, hwe⟩; subst hwe)
              go_quiet (fail)
              go_wp2
              go_roundw
              case rel => exact ⟨3, i, n, 3, by omega, by omega, hi, hn, rfl, rfl, by go_num, hH.drewN _, bel_drewN hB, HS.out⟩
              case measure => simp [intOf]
        · have HS : Hid (DurI R (hms.drop 3) s i n) := HD0.out.skip hiq hq HA.out (.inl (by omega)) (.inr (.inl (by omega)))
          have hlt' : ¬ (q : Int) < (s.size : Int) := by omega
          by_cases hiq2 : i < q
          · have hiq2' : (i : Int) < (q : Int) := by omega
            go_wp2
            go_quiet (fail)
            go_wp2
            go_roundw
            case rel => exact ⟨3, i, n, 3, by omega, by omega, hi, hn, rfl, rfl, by go_num, hH.drewN _, bel_drewN hB, HS.out⟩
            case measure => simp [intOf]
          · have hiq2' : ¬ (i : Int) < (q : Int) := by omega
            go_wp2
            go_quiet (fail)
            go_wp2
            go_roundw
            case rel => exact ⟨3, i, n, 3, by omega, by omega, hi, hn, rfl, rfl, by go_num, hH.drewN _, bel_drewN hB, HS.out⟩
            case measure => simp [intOf]
    · have HD : Hid (DurRes R (decide (i = s.size)) n) := hd.done hi
      clear hd
      by_cases he : i = s.size
      · have e1 : decide (i = s.size) = true := by simp [he]
        rw [e1] at HD
        have hpos : (0 : Int) < (s.size : Int) := by omega
        clear e1
        subst he
        go_wp2
        go_ret2
        exact ⟨⟨n, true, rfl, hn, HD.out⟩, hB⟩
      · have e1 : decide (i = s.size) = false := by simp [he]
        rw [e1] at HD
        have he' : ¬ (i : Int) = (s.size : Int) := by omega
        clear e1
        by_cases hi0 : (0 : Int) < (i : Int)
        · go_wp2
          go_ret2
          exact ⟨⟨n, false, ret_vb (by rw [beq_eq_false_iff_ne]; exact he'), hn, HD.out⟩, hB⟩
        · obtain rfl : i = 0 := by omega
          clear hi0
          go_wp2
          go_ret2
          exact ⟨⟨n, false, rfl, hn, HD.out⟩, hB⟩
end Go.Proofs.YtnicolaphmffkaaGreatDoor
namespace Go.Proofs.YtnicolaphmffkaaGreatDoor
open Go.RowKit
set_option linter.unusedVariables false
set_option linter.unusedSimpArgs false

theorem list_cons (s : ByteArray) (h : 0 < s.size) : s.data.toList = s[0] :: s.data.toList.drop 1 := by
  have := drop_get s 0 h
  simpa using this

theorem hasHex_iff (s : ByteArray) (h : 0 < s.size) : Lib.hasPrefix s.data.toList [48, 120] = true ↔ s[0] = 48 ∧ (s.data.toList.drop 1).head? = some 120 := by
  have e := list_cons s h
  generalize s.data.toList.drop 1 = r at e ⊢
  unfold Lib.hasPrefix
  rw [e]
  cases r with
  | nil => simp [List.isPrefixOf]
  | cons a r =>
    simp only [List.isPrefixOf, Bool.and_eq_true, beq_iff_eq, List.head?_cons, Option.some.injEq, and_true]
    exact ⟨fun h => ⟨h.1.symm, h.2.symm⟩, fun h => ⟨h.1.symm, h.2.symm⟩⟩

theorem hasHex_size (s : ByteArray) (h : Lib.hasPrefix s.data.toList [48, 120] = true) : 2 ≤ s.size := by
  unfold Lib.hasPrefix at h
  rw [List.isPrefixOf_iff_prefix] at h
  have := h.length_le
  simpa using this

theorem drop2_eq (s : ByteArray) : (s.extract 2 s.size).data.toList = (s.data.toList.drop 1).tail := by
  rw [Lib.extract_data, List.tail_drop]
  exact List.take_of_length_le (by simp)

theorem num_empty (s : ByteArray) (h : s.size = 0) : numOf s.data.toList = none := by
  have : s.data.toList = [] := by
    apply List.eq_nil_of_length_eq_zero; simpa using h
  rw [this]; rfl
theorem num_nod (s : ByteArray) (h : 0 < s.size) (hd : isD s[0] = false) : numOf s.data.toList = none := by
  rw [list_cons s h]; unfold numOf; simp [hd]
theorem num_hex (s : ByteArray) (h : 0 < s.size) (hd : isD s[0] = true) (hp : Lib.hasPrefix s.data.toList [48, 120] = true) :
    numOf s.data.toList = if okD 16 true true (s.extract 2 s.size).data.toList = true then some (valD 16 0 (s.extract 2 s.size).data.toList) else none := by
  obtain ⟨h1, h2⟩ := (hasHex_iff s h).1 hp
  rw [drop2_eq, list_cons s h]; unfold numOf
  simp only [hd, Bool.true_eq_false, if_false, List.drop_succ_cons, List.drop_zero]
  rw [if_pos ⟨by rw [h1]; rfl, h2⟩]
theorem num_not (s : ByteArray) (h : 0 < s.size) (hd : isD s[0] = true) (hp : Lib.hasPrefix s.data.toList [48, 120] = false) :
    numOf s.data.toList = if okD 10 true true s.data.toList = true then some (valD 10 0 s.data.toList) else durOf hms s.data.toList := by
  have hn : ¬ (s[0] = 48 ∧ (s.data.toList.drop 1).head? = some 120) := by rw [← hasHex_iff s h, hp]; simp
  have e := list_cons s h
  generalize s.data.toList.drop 1 = r at e hn
  rw [e]; unfold numOf
  simp only [hd, Bool.true_eq_false, if_false]
  rw [if_neg]
  rintro ⟨h1, h2⟩
  exact hn ⟨UInt8.toNat_inj.1 h1, h2⟩

theorem Cl.of_min {v V : Nat} (h : v = min V 2147483648) : Cl v V := by
  subst h; exact ⟨fun h => by omega, fun h => by omega⟩
theorem Cl.of_min2 {v V : Nat} (h : v = min V 1099511627776) : Cl v V := by
  subst h; exact ⟨fun h => by omega, fun h => by omega⟩
theorem DurRes.of_hex {O : Bool} {V v : Nat} (h : DigRes O V 2147483648 v) : DurRes (if O = true then some V else Option.none) O v := by
  cases O with
  | true => exact ⟨rfl, fun V' hV => by simp at hV; subst hV; exact Cl.of_min (h.1 rfl)⟩
  | false => exact ⟨rfl, fun V' hV => by simp at hV⟩
theorem DurRes.of_ref {O : Bool} {V v : Nat} (h : DigRes O V 1099511627776 v) : DurRes (if O = true then some V else Option.none) O v := by
  cases O with
  | true => exact ⟨rfl, fun V' hV => by simp at hV; subst hV; exact Cl.of_min2 (h.1 rfl)⟩
  | false => exact ⟨rfl, fun V' hV => by simp at hV⟩

set_option maxRecDepth 100000 in
set_option maxHeartbeats 2000000 in
theorem numberValue_any (s : ByteArray) (w : World) (hs : s.size < 4611686018427387904) :
    Calls Tryz.prog 130 #[.string s] w fun e w' => (∃ (v : Nat) (ok : Bool), e = .returned (.tuple #[.int .i64 v, .bool ok]) ∧ v ≤ 9007199254740992 ∧ DurRes (numOf s.data.toList) ok v) ∧ Below w.heap.size w w' := by
  by_cases h0 : s.size = 0
  · have hR : Hid (numOf s.data.toList = none) := num_empty s h0
    generalize numOf s.data.toList = R at hR ⊢
    have he : s = ByteArray.empty := by
      obtain ⟨⟨l⟩⟩ := s
      have : l = [] := by apply List.eq_nil_of_length_eq_zero; exact h0
      subst this; rfl
    subst he
    clear hs h0
    go_enter Tryz.func130, Tryz.ntmps130
    go_wp2
    go_ret2
    exact ⟨⟨0, false, rfl, by omega, DurRes.none hR.out⟩, Below.refl _ _⟩
  · have h1 : 0 < s.size := by omega
    have hne : s.toList.isEmpty = false := by
      rw [Lib.toList_data, list_cons s h1]; rfl
    have hD := fun w => isDigit_any s[0] w
    cases hd : isD s[0] with
    | false =>
      have hR : Hid (numOf s.data.toList = none) := num_nod s h1 hd
      generalize numOf s.data.toList = R at hR ⊢
      rw [hd] at hD
      clear hd
      go_enter Tryz.func130, Tryz.ntmps130
      go_wp2_with (go_at_call 122; with_reducible refine (hD _).mono ?_; rintro e w' ⟨rfl, hwe⟩; subst hwe)
      go_ret2
      exact ⟨⟨0, false, rfl, by omega, DurRes.none hR.out⟩, Below.refl _ _⟩
    | true =>
      cases hp : Lib.hasPrefix s.data.toList [48, 120] with
      | true =>
        have hR : Hid (numOf s.data.toList = _) := num_hex s h1 hd hp
        have hC := fun w => cutPrefix_any s true w hs hp (fun _ => hasHex_size s hp)
        have hDg := fun w => digitsValue16 (s.extract 2 s.size) w (by simp; omega)
        have hR' := hR.out
        generalize numOf s.data.toList = R at hR hR' ⊢
        rw [hd] at hD
        clear hd hp hR
        generalize okD 16 true true (s.extract 2 s.size).data.toList = O at hR' hDg
        generalize valD 16 0 (s.extract 2 s.size).data.toList = V at hR' hDg
        simp only [if_true] at hC
        generalize s.extract 2 s.size = T at hDg hC
        have HE : Hid (R = if O = true then some V else Option.none) := hR'
        clear hR'
        go_enter Tryz.func130, Tryz.ntmps130
        go_wp2_with (first
          | (go_at_call 122; with_reducible refine (hD _).mono ?_; rintro e w' ⟨rfl, hwe⟩; subst hwe)
          | (go_at_call 131; with_reducible refine (hC _).mono ?_; rintro e w' ⟨rfl, hwe⟩; subst hwe)
          | (go_at_call 132; with_reducible refine (hDg _).mono ?_; rintro e w2 ⟨⟨d, rfl, hdr⟩, hwe⟩; subst hwe; have hd2 := DigRes.le hdr; have HR := hid_of (DurRes.of_hex hdr); clear hdr))
        go_ret2
        exact ⟨⟨d, O, rfl, by omega, by rw [HE.out]; exact HR.out⟩, Below.refl _ _⟩
      | false =>
        have hR' := num_not s h1 hd hp
        have hC := fun w => cutPrefix_any s false w hs hp (fun h => by cases h)
        have hDg := fun w => digitsValue10 s w hs
        have hDu := fun w => durationValue_any s w hs
        generalize numOf s.data.toList = R at hR' ⊢
        rw [hd] at hD
        clear hd hp
        simp only [Bool.false_eq_true, if_false] at hC
        cases hok : okD 10 true true s.data.toList with
        | true =>
          rw [hok] at hDg hR'
          generalize valD 10 0 s.data.toList = V at hR' hDg
          have HR : Hid (R = if true = true then some V else Option.none) := hR'
          clear hR' hok hDu
          go_enter Tryz.func130, Tryz.ntmps130
          go_wp2_with (first
            | (go_at_call 122; with_reducible refine (hD _).mono ?_; rintro e w' ⟨rfl, hwe⟩; subst hwe)
            | (go_at_call 131; with_reducible refine (hC _).mono ?_; rintro e w' ⟨rfl, hwe⟩; subst hwe)
            | (go_at_call 132; with_reducible refine (hDg _).mono ?_; rintro e w2 ⟨⟨d, rfl, hdr⟩, hwe⟩; subst hwe; have hd2 := DigRes.le hdr; have HX := hid_of (DurRes.of_hex hdr); clear hdr))
          go_ret2
          exact ⟨⟨d, true, rfl, by omega, by rw [HR.out]; exact HX.out⟩, Below.refl _ _⟩
        | false =>
          rw [hok] at hDg hR'
          generalize valD 10 0 s.data.toList = V at hR' hDg
          have hR2 : durOf hms s.data.toList = R := by rw [hR']; simp
          rw [hR2] at hDu
          clear hR' hok hR2
          go_enter Tryz.func130, Tryz.ntmps130
          go_wp2_with (first
            | (go_at_call 122; with_reducible refine (hD _).mono ?_; rintro e w' ⟨rfl, hwe⟩; subst hwe)
            | (go_at_call 131; with_reducible refine (hC _).mono ?_; rintro e w' ⟨rfl, hwe⟩; subst hwe)
            | (go_at_call 132; with_reducible refine (hDg _).mono ?_; rintro e w2 ⟨⟨d, rfl, hdr⟩, hwe⟩; subst hwe; clear hdr)
            | (go_at_call 133; with_reducible refine (hDu _).mono ?_; rintro e w3 ⟨⟨v, ok, rfl, hv, hdr⟩, hb⟩; have HX := hid_of hdr; clear hdr))
          go_ret2
          exact ⟨⟨v, ok, rfl, by omega, HX.out⟩, hb⟩
end Go.Proofs.YtnicolaphmffkaaGreatDoor
namespace Go.Proofs.YtnicolaphmffkaaGreatDoor
open Go.RowKit
set_option linter.unusedVariables false
set_option linter.unusedSimpArgs false

/-- The answer of Number. -/
def numA (R : Option Nat) : Value := .tuple #[.int .i32 (numV R), .int .i64 (numE R)]

theorem numA_none : numA Option.none = .tuple #[.int .i32 0, .int .i64 22] := rfl
theorem numA_small (V : Nat) (h : V ≤ 2147483647) : numA (some V) = .tuple #[.int .i32 (V : Int), .int .i64 0] := by
  unfold numA numV numE; simp [h]
theorem numA_big (V : Nat) (h : 2147483647 < V) : numA (some V) = .tuple #[.int .i32 0, .int .i64 23] := by
  unfold numA numV numE; simp [show ¬ V ≤ 2147483647 by omega]

set_option maxRecDepth 100000 in
set_option maxHeartbeats 2000000 in
theorem number_of (s : ByteArray) (R : Option Nat) (w : World)
    (hN : ∀ w, Calls Tryz.prog 130 #[.string s] w fun e w' => (∃ (v : Nat) (ok : Bool), e = .returned (.tuple #[.int .i64 v, .bool ok]) ∧ v ≤ 9007199254740992 ∧ DurRes R ok v) ∧ Below w.heap.size w w') :
    Calls Tryz.prog 129 #[.string s] w fun e w' => e = .returned (numA R) ∧ Below w.heap.size w w' := by
  cases R with
  | none =>
    have hN' : ∀ w, Calls Tryz.prog 130 #[.string s] w fun e w' => (∃ v : Nat, e = .returned (.tuple #[.int .i64 v, .bool false]) ∧ v ≤ 9007199254740992) ∧ Below w.heap.size w w' := fun w =>
      (hN w).mono fun e w' ⟨⟨v, ok, he, hv, hd⟩, hb⟩ => ⟨⟨v, by rw [he, hd.1]; rfl, hv⟩, hb⟩
    clear hN
    rw [numA_none]
    go_enter Tryz.func129, Tryz.ntmps129
    go_wp2_with (go_at_call 130; with_reducible refine (hN' _).mono ?_; rintro e w1 ⟨⟨v, rfl, hv⟩, hb⟩)
    go_ret2
    exact ⟨rfl, hb⟩
  | some V =>
    by_cases hV : V ≤ 2147483647
    · have hN' : ∀ w, Calls Tryz.prog 130 #[.string s] w fun e w' => e = .returned (.tuple #[.int .i64 V, .bool true]) ∧ Below w.heap.size w w' := fun w =>
        (hN w).mono fun e w' ⟨⟨v, ok, he, hv, hd⟩, hb⟩ => ⟨by rw [he, hd.1, (hd.2 V rfl).1 hV]; rfl, hb⟩
      clear hN
      rw [numA_small V hV]
      have hV' : (V : Int) ≤ 2147483647 := by omega
      go_enter Tryz.func129, Tryz.ntmps129
      go_wp2_with (go_at_call 130; with_reducible refine (hN' _).mono ?_; rintro e w1 ⟨rfl, hb⟩)
      go_ret2
      exact ⟨rfl, hb⟩
    · have hN' : ∀ w, Calls Tryz.prog 130 #[.string s] w fun e w' => (∃ v : Nat, e = .returned (.tuple #[.int .i64 v, .bool true]) ∧ (2147483647 : Int) < (v : Int)) ∧ Below w.heap.size w w' := fun w =>
        (hN w).mono fun e w' ⟨⟨v, ok, he, hv, hd⟩, hb⟩ => ⟨⟨v, by rw [he, hd.1]; rfl, by have := (hd.2 V rfl).2 (by omega); omega⟩, hb⟩
      clear hN
      rw [numA_big V (by omega)]
      clear hV
      go_enter Tryz.func129, Tryz.ntmps129
      go_wp2_with (go_at_call 130; with_reducible refine (hN' _).mono ?_; rintro e w1 ⟨⟨v, rfl, hv⟩, hb⟩)
      go_ret2
      exact ⟨rfl, hb⟩

theorem number_any (s : ByteArray) (w : World) (hs : s.size < 4611686018427387904) :
    Calls Tryz.prog 129 #[.string s] w fun e w' => e = .returned (numA (numOf s.data.toList)) ∧ Below w.heap.size w w' :=
  number_of s _ w (fun w => numberValue_any s w hs)

set_option maxRecDepth 100000 in
set_option maxHeartbeats 4000000 in
theorem duration_zero (w : World) :
    Calls Tryz.prog 117 #[.string ByteArray.empty] w fun e w' => e = .returned (.tuple #[.int .i64 0, .bool false]) ∧ Below w.heap.size w w' := by
  go_enter Tryz.func117, Tryz.ntmps117
  go_wp2
  go_loopw [6, 7, 8] (fun tn ti tk wr => ∃ (k : Nat) (K : Int), K = k ∧ k ≤ 3 ∧ tn = .int .i64 0 ∧ ti = .int .i64 0 ∧ tk = .int .i64 K ∧ Below w.heap.size w wr) (fun _ _ tk _ => 3 - (intOf tk).toNat)
  case atStart => exact ⟨0, 0, rfl, by omega, rfl, rfl, rfl, (Below.refl _ _).alloc (Nat.le_refl _) _⟩
  case round =>
    obtain ⟨k, K, hK, hk, rfl, rfl, rfl, hB⟩ := hrel
    by_cases hk3 : K < 3
    · go_wp2
      go_loop [9] (fun tj => tj = .int .i64 0) (fun _ => 0)
      case atStart => exact rfl
      case round =>
        obtain rfl := hrel
        go_wp2
        go_quiet (fail)
        go_wp2
        go_roundw
        case rel => exact ⟨k + 1, K + 1, by omega, by omega, rfl, rfl, by go_num, bel_drewN hB⟩
        case measure => simp [intOf]; omega
    · go_wp2
      go_ret2
      exact ⟨rfl, hB⟩
end Go.Proofs.YtnicolaphmffkaaGreatDoor
namespace Go.Proofs.YtnicolaphmffkaaGreatDoor
open Go.RowKit
set_option linter.unusedVariables false
set_option linter.unusedSimpArgs false

theorem dur_nodigit : ∀ (us : List (UInt8 × Nat)) (c : UInt8) (r : List UInt8), isD c = false → durOf us (c :: r) = none
  | [], c, r, _ => by simp [durOf]
  | (u, k) :: us, c, r, h => by
    rw [durOf, if_neg]
    · exact dur_nodigit us c r h
    · rintro ⟨h1, _⟩
      rw [List.takeWhile_cons_of_neg (by simp [h])] at h1
      exact h1 rfl

theorem ok10_first (s : ByteArray) (g : Bool) (h : okD 10 g true s.data.toList = true) : ∃ h0 : 0 < s.size, isD s[0] = true ∧ Lib.hasPrefix s.data.toList [48, 120] = false := by
  by_cases h0 : 0 < s.size
  · refine ⟨h0, ?_, ?_⟩
    · rw [list_cons s h0] at h
      exact (dv_lt10 _).1 (okD_first 10 g _ _ h).1
    · rw [← Bool.not_eq_true, hasHex_iff s h0]
      rintro ⟨h1, h2⟩
      rw [list_cons s h0] at h
      cases hr : s.data.toList.drop 1 with
      | nil => rw [hr] at h2; simp at h2
      | cons a r =>
        rw [hr] at h2 h
        simp only [List.head?_cons, Option.some.injEq] at h2
        subst h2
        rw [h1] at h
        have h3 : okD 10 g true (48 :: 120 :: r) = false := by
          rw [okD, if_neg (by decide), if_pos (by decide), okD, if_neg (by decide), if_neg (by decide)]
        rw [h3] at h; cases h
  · have : s.data.toList = [] := List.eq_nil_of_length_eq_zero (by have : s.data.toList.length = s.size := by simp
                                                                   omega)
    rw [this] at h; simp [okD] at h

theorem dur_hex (s : ByteArray) (h : Lib.hasPrefix s.data.toList [48, 120] = true) : durOf hms s.data.toList = none := by
  have hsz := hasHex_size s h
  obtain ⟨h1, h2⟩ := (hasHex_iff s (by omega)).1 h
  refine durOf_bad hms _ 120 ?_ (by decide) (by decide)
  rw [list_cons s (by omega)]
  cases hr : s.data.toList.drop 1 with
  | nil => rw [hr] at h2; simp at h2
  | cons a r => rw [hr] at h2; simp at h2; simp [h2]

theorem num_dur (s : ByteArray) (h0 : 0 < s.size) (h10 : okD 10 true true s.data.toList = false) (hx : Lib.hasPrefix s.data.toList [48, 120] = true → s.size ≤ 2) : numOf s.data.toList = durOf hms s.data.toList := by
  cases hd : isD s[0] with
  | false => rw [num_nod s h0 hd, list_cons s h0, dur_nodigit hms _ _ hd]
  | true =>
    cases hp : Lib.hasPrefix s.data.toList [48, 120] with
    | true =>
      rw [num_hex s h0 hd hp, dur_hex s hp]
      have hsz := hasHex_size s hp
      have : s.size = 2 := by have := hx hp; omega
      have e : (s.extract 2 s.size).data.toList = [] := by
        rw [Lib.extract_data]; simp [this]
      rw [e]; simp [okD]
    | false => rw [num_not s h0 hd hp, h10]; simp

theorem hex_of (s : ByteArray) (h : 2 < s.size) (h1 : (s[0].toNat : Int) = 48) (h2 : (s[1].toNat : Int) = 120) : Lib.hasPrefix s.data.toList [48, 120] = true := by
  rw [hasHex_iff s (by omega)]
  refine ⟨UInt8.toNat_inj.1 (by show s[0].toNat = 48; omega), ?_⟩
  rw [drop_get s 1 (by omega)]
  simp only [List.head?_cons, Option.some.injEq]
  exact UInt8.toNat_inj.1 (by show s[1].toNat = 120; omega)
theorem hex_not (s : ByteArray) (h : 2 < s.size) (h1 : ¬ ((s[0].toNat : Int) = 48 ∧ (s[1].toNat : Int) = 120)) : Lib.hasPrefix s.data.toList [48, 120] = false := by
  rw [← Bool.not_eq_true, hasHex_iff s (by omega)]
  rintro ⟨h3, h4⟩
  rw [drop_get s 1 (by omega)] at h4
  simp only [List.head?_cons, Option.some.injEq] at h4
  exact h1 ⟨by rw [h3]; rfl, by rw [h4]; rfl⟩

/-- What stands in the two variables ahead of the last tests. -/
def Tl (R : Option Nat) (ok : Bool) (v : Nat) : Prop := DurRes R ok v
theorem Tl.none {R : Option Nat} {v : Nat} (h : Tl R false v) : Ending.returned (.tuple #[.int .i32 0, .int .i64 22]) = .returned (numA R) := by
  have h1 : false = R.isSome := h.1
  cases R with
  | none => rfl
  | some V => cases h1
theorem Tl.big {R : Option Nat} {v : Nat} (h : Tl R true v) (hv : (2147483647 : Int) < (v : Int)) : Ending.returned (.tuple #[.int .i32 0, .int .i64 23]) = .returned (numA R) := by
  have h1 : true = R.isSome := h.1
  cases R with
  | none => cases h1
  | some V =>
    rw [numA_big V ?_]
    have := h.2 V rfl
    rcases Nat.lt_or_ge 2147483647 V with h' | h'
    · exact h'
    · have := this.1 h'; omega
theorem Tl.small {R : Option Nat} {v : Nat} (h : Tl R true v) (hv : (v : Int) ≤ 2147483647) : Ending.returned (.tuple #[.int .i32 (v : Int), .int .i64 0]) = .returned (numA R) := by
  have h1 : true = R.isSome := h.1
  cases R with
  | none => cases h1
  | some V =>
    have h2 := h.2 V rfl
    have h3 : V ≤ 2147483647 := by
      rcases Nat.lt_or_ge 2147483647 V with h' | h'
      · have := h2.2 h'; omega
      · exact h'
    rw [numA_small V h3, h2.1 h3]

set_option maxRecDepth 100000 in
set_option maxHeartbeats 4000000 in
theorem refNumber_1 (s : ByteArray) (R : Option Nat) (w : World) (hD : ∀ w, Calls Tryz.prog 116 #[.string s, .int .i64 10, .bool true] w fun e w' => (∃ v : Nat, e = .returned (.tuple #[.int .i64 v, .bool true]) ∧ v ≤ 1099511627776 ∧ Tl R true v) ∧ w' = w) :
    Calls Tryz.prog 100 #[.string s] w fun e w' => e = .returned (numA R) ∧ Below w.heap.size w w' := by
  go_enter Tryz.func100, Tryz.ntmps100
  go_wp2_with (go_at_call 116; with_reducible refine (hD _).mono ?_; rintro e w1 ⟨⟨v, rfl, hv, hT⟩, hwe⟩; subst hwe; have HT := hid_of hT; clear hT)
  · go_ret2
    exact ⟨HT.out.big (by omega), Below.refl _ _⟩
  · go_ret2
    exact ⟨HT.out.small (by omega), Below.refl _ _⟩

set_option maxRecDepth 100000 in
set_option maxHeartbeats 4000000 in
theorem refNumber_2a (s : ByteArray) (R : Option Nat) (w : World) (hD : ∀ w, Calls Tryz.prog 116 #[.string s, .int .i64 10, .bool true] w fun e w' => (∃ v : Nat, e = .returned (.tuple #[.int .i64 v, .bool false])) ∧ w' = w)
    (hE : ∀ w, Calls Tryz.prog 116 #[.string (s.extract 2 s.size), .int .i64 16, .bool true] w fun e w' => (∃ v : Nat, e = .returned (.tuple #[.int .i64 v, .bool true]) ∧ v ≤ 1099511627776 ∧ Tl R true v) ∧ w' = w)
    (h2 : 2 < s.size) (h48 : (s[0].toNat : Int) = 48) (h120 : (s[1].toNat : Int) = 120) :
    Calls Tryz.prog 100 #[.string s] w fun e w' => e = .returned (numA R) ∧ Below w.heap.size w w' := by
  have h2' : (2 : Int) < (s.size : Int) := by omega
  go_enter Tryz.func100, Tryz.ntmps100
  go_wp2_with (first
    | (go_at_call 116; with_reducible refine (hD _).mono ?_; rintro e w1 ⟨⟨v1, rfl⟩, hwe⟩; subst hwe)
    | (go_at_call 116; with_reducible refine (hE _).mono ?_; rintro e w1 ⟨⟨v, rfl, hv, hT⟩, hwe⟩; subst hwe; have HT := hid_of hT; clear hT))
  · go_ret2
    exact ⟨HT.out.big (by omega), Below.refl _ _⟩
  · go_ret2
    exact ⟨HT.out.small (by omega), Below.refl _ _⟩

set_option maxRecDepth 100000 in
set_option maxHeartbeats 4000000 in
theorem refNumber_2b (s : ByteArray) (w : World) (hD : ∀ w, Calls Tryz.prog 116 #[.string s, .int .i64 10, .bool true] w fun e w' => (∃ v : Nat, e = .returned (.tuple #[.int .i64 v, .bool false])) ∧ w' = w)
    (hE : ∀ w, Calls Tryz.prog 116 #[.string (s.extract 2 s.size), .int .i64 16, .bool true] w fun e w' => (∃ v : Nat, e = .returned (.tuple #[.int .i64 v, .bool false])) ∧ w' = w)
    (hU : ∀ w, Calls Tryz.prog 117 #[.string s] w fun e w' => (∃ v : Nat, e = .returned (.tuple #[.int .i64 v, .bool false])) ∧ Below w.heap.size w w')
    (h2 : 2 < s.size) (h48 : (s[0].toNat : Int) = 48) (h120 : (s[1].toNat : Int) = 120) :
    Calls Tryz.prog 100 #[.string s] w fun e w' => e = .returned (numA Option.none) ∧ Below w.heap.size w w' := by
  have h2' : (2 : Int) < (s.size : Int) := by omega
  rw [numA_none]
  go_enter Tryz.func100, Tryz.ntmps100
  go_wp2_with (first
    | (go_at_call 116; with_reducible refine (hD _).mono ?_; rintro e w1 ⟨⟨v1, rfl⟩, hwe⟩; subst hwe)
    | (go_at_call 116; with_reducible refine (hE _).mono ?_; rintro e w1 ⟨⟨v2, rfl⟩, hwe⟩; subst hwe)
    | (go_at_call 117; with_reducible refine (hU _).mono ?_; rintro e w1 ⟨⟨v3, rfl⟩, hb⟩))
  go_ret2
  exact ⟨rfl, hb⟩

set_option maxRecDepth 100000 in
set_option maxHeartbeats 4000000 in
theorem refNumber_3 (s : ByteArray) (R : Option Nat) (w : World) (hD : ∀ w, Calls Tryz.prog 116 #[.string s, .int .i64 10, .bool true] w fun e w' => (∃ v : Nat, e = .returned (.tuple #[.int .i64 v, .bool false])) ∧ w' = w)
    (hU : ∀ w, Calls Tryz.prog 117 #[.string s] w fun e w' => (∃ (v : Nat) (ok : Bool), e = .returned (.tuple #[.int .i64 v, .bool ok]) ∧ v ≤ 1099511627776 ∧ Tl R ok v) ∧ Below w.heap.size w w')
    (h : s.size ≤ 2 ∨ ∃ h2 : 2 < s.size, ¬ (s[0].toNat : Int) = 48 ∨ ((s[0].toNat : Int) = 48 ∧ ¬ (s[1].toNat : Int) = 120)) :
    Calls Tryz.prog 100 #[.string s] w fun e w' => e = .returned (numA R) ∧ Below w.heap.size w w' := by
  have key : ∀ ok : Bool, (∀ w, Calls Tryz.prog 117 #[.string s] w fun e w' => (∃ (v : Nat), e = .returned (.tuple #[.int .i64 v, .bool ok]) ∧ v ≤ 1099511627776 ∧ Tl R ok v) ∧ Below w.heap.size w w') →
      Calls Tryz.prog 100 #[.string s] w fun e w' => e = .returned (numA R) ∧ Below w.heap.size w w' := by
    intro ok hU
    rcases h with h | ⟨h2, h | ⟨h48, h⟩⟩
    · have h' : ¬ (2 : Int) < (s.size : Int) := by omega
      cases ok
      · go_enter Tryz.func100, Tryz.ntmps100
        go_wp2_with (first
          | (go_at_call 116; with_reducible refine (hD _).mono ?_; rintro e w1 ⟨⟨v1, rfl⟩, hwe⟩; subst hwe)
          | (go_at_call 117; with_reducible refine (hU _).mono ?_; rintro e w1 ⟨⟨v, rfl, hv, hT⟩, hb⟩; have HT := hid_of hT; clear hT))
        go_ret2
        exact ⟨HT.out.none, hb⟩
      · go_enter Tryz.func100, Tryz.ntmps100
        go_wp2_with (first
          | (go_at_call 116; with_reducible refine (hD _).mono ?_; rintro e w1 ⟨⟨v1, rfl⟩, hwe⟩; subst hwe)
          | (go_at_call 117; with_reducible refine (hU _).mono ?_; rintro e w1 ⟨⟨v, rfl, hv, hT⟩, hb⟩; have HT := hid_of hT; clear hT))
        · go_ret2
          exact ⟨HT.out.big (by omega), hb⟩
        · go_ret2
          exact ⟨HT.out.small (by omega), hb⟩
    · have h' : (2 : Int) < (s.size : Int) := by omega
      cases ok
      · go_enter Tryz.func100, Tryz.ntmps100
        go_wp2_with (first
          | (go_at_call 116; with_reducible refine (hD _).mono ?_; rintro e w1 ⟨⟨v1, rfl⟩, hwe⟩; subst hwe)
          | (go_at_call 117; with_reducible refine (hU _).mono ?_; rintro e w1 ⟨⟨v, rfl, hv, hT⟩, hb⟩; have HT := hid_of hT; clear hT))
        go_ret2
        exact ⟨HT.out.none, hb⟩
      · go_enter Tryz.func100, Tryz.ntmps100
        go_wp2_with (first
          | (go_at_call 116; with_reducible refine (hD _).mono ?_; rintro e w1 ⟨⟨v1, rfl⟩, hwe⟩; subst hwe)
          | (go_at_call 117; with_reducible refine (hU _).mono ?_; rintro e w1 ⟨⟨v, rfl, hv, hT⟩, hb⟩; have HT := hid_of hT; clear hT))
        · go_ret2
          exact ⟨HT.out.big (by omega), hb⟩
        · go_ret2
          exact ⟨HT.out.small (by omega), hb⟩
    · have h' : (2 : Int) < (s.size : Int) := by omega
      cases ok
      · go_enter Tryz.func100, Tryz.ntmps100
        go_wp2_with (first
          | (go_at_call 116; with_reducible refine (hD _).mono ?_; rintro e w1 ⟨⟨v1, rfl⟩, hwe⟩; subst hwe)
          | (go_at_call 117; with_reducible refine (hU _).mono ?_; rintro e w1 ⟨⟨v, rfl, hv, hT⟩, hb⟩; have HT := hid_of hT; clear hT))
        go_ret2
        exact ⟨HT.out.none, hb⟩
      · go_enter Tryz.func100, Tryz.ntmps100
        go_wp2_with (first
          | (go_at_call 116; with_reducible refine (hD _).mono ?_; rintro e w1 ⟨⟨v1, rfl⟩, hwe⟩; subst hwe)
          | (go_at_call 117; with_reducible refine (hU _).mono ?_; rintro e w1 ⟨⟨v, rfl, hv, hT⟩, hb⟩; have HT := hid_of hT; clear hT))
        · go_ret2
          exact ⟨HT.out.big (by omega), hb⟩
        · go_ret2
          exact ⟨HT.out.small (by omega), hb⟩
  refine key R.isSome (fun w => (hU w).mono ?_)
  rintro e w' ⟨⟨v, ok, he, hv, hT⟩, hb⟩
  have : ok = R.isSome := hT.1
  rw [← this]
  exact ⟨⟨v, he, hv, hT⟩, hb⟩

theorem refNumber_any (s : ByteArray) (w : World) (hs : s.size < 4611686018427387904) :
    Calls Tryz.prog 100 #[.string s] w fun e w' => e = .returned (numA (numOf s.data.toList)) ∧ Below w.heap.size w w' := by
  have hD := fun w => digits10 s true w hs
  cases h10 : okD 10 true true s.data.toList with
  | true =>
    obtain ⟨h0, hd, hp⟩ := ok10_first s true h10
    have hR := num_not s h0 hd hp
    refine refNumber_1 s _ w (fun w => (hD w).mono ?_)
    rintro e w' ⟨⟨v, he, hr⟩, hw⟩
    refine ⟨⟨v, by rw [he, h10], hr.2, ?_⟩, hw⟩
    rw [hR]
    have := DurRes.of_ref hr
    rw [h10] at this ⊢
    exact this
  | false =>
    have hD' : ∀ w, Calls Tryz.prog 116 #[.string s, .int .i64 10, .bool true] w fun e w' => (∃ v : Nat, e = .returned (.tuple #[.int .i64 v, .bool false])) ∧ w' = w := fun w => (hD w).mono (by
      rintro e w' ⟨⟨v, he, hr⟩, hw⟩
      exact ⟨⟨v, by rw [he, h10]⟩, hw⟩)
    by_cases hx : ∃ h2 : 2 < s.size, (s[0].toNat : Int) = 48 ∧ (s[1].toNat : Int) = 120
    · obtain ⟨h2, h48, h120⟩ := hx
      have hp := hex_of s h2 h48 h120
      have hd : isD s[0] = true := by rw [isD_iff]; omega
      have hR := num_hex s (by omega) hd hp
      have hE := fun w => digits16 (s.extract 2 s.size) true w (by simp; omega)
      cases h16 : okD 16 true true (s.extract 2 s.size).data.toList with
      | true =>
        refine refNumber_2a s _ w hD' (fun w => (hE w).mono ?_) h2 h48 h120
        rintro e w' ⟨⟨v, he, hr⟩, hw⟩
        refine ⟨⟨v, by rw [he, h16], hr.2, ?_⟩, hw⟩
        rw [hR]
        have := DurRes.of_ref hr
        rw [h16] at this ⊢
        exact this
      | false =>
        rw [h16] at hR
        simp only [Bool.false_eq_true, if_false] at hR
        rw [hR]
        refine refNumber_2b s w hD' (fun w => (hE w).mono ?_) (fun w => (duration_any s w hs (by omega)).mono ?_) h2 h48 h120
        · rintro e w' ⟨⟨v, he, hr⟩, hw⟩
          exact ⟨⟨v, by rw [he, h16]⟩, hw⟩
        · rintro e w' ⟨⟨v, ok, he, hv, hT⟩, hb⟩
          have : ok = false := by rw [hT.1, dur_hex s hp]; rfl
          exact ⟨⟨v, by rw [he, this]⟩, hb⟩
    · have hcond : s.size ≤ 2 ∨ ∃ h2 : 2 < s.size, ¬ (s[0].toNat : Int) = 48 ∨ ((s[0].toNat : Int) = 48 ∧ ¬ (s[1].toNat : Int) = 120) := by
        rcases Nat.lt_or_ge 2 s.size with h2 | h2
        · right
          refine ⟨h2, ?_⟩
          by_cases h48 : (s[0].toNat : Int) = 48
          · exact .inr ⟨h48, fun h => hx ⟨h2, h48, h⟩⟩
          · exact .inl h48
        · exact .inl h2
      refine refNumber_3 s _ w hD' (fun w => ?_) hcond
      by_cases h0 : s.size = 0
      · rw [num_empty s h0]
        have he : s = ByteArray.empty := by
          obtain ⟨⟨l⟩⟩ := s
          have : l = [] := by apply List.eq_nil_of_length_eq_zero; exact h0
          subst this; rfl
        subst he
        refine (duration_zero w).mono ?_
        rintro e w' ⟨he, hb⟩
        exact ⟨⟨0, false, he, by omega, DurRes.none rfl⟩, hb⟩
      · rw [num_dur s (by omega) h10 (fun hp => by
          rcases Nat.lt_or_ge 2 s.size with h2 | h2
          · exfalso
            have := hex_not s h2 (fun h => hx ⟨h2, h.1, h.2⟩)
            rw [hp] at this; cases this
          · exact h2)]
        exact duration_any s w hs (by omega)
end Go.Proofs.YtnicolaphmffkaaGreatDoor
