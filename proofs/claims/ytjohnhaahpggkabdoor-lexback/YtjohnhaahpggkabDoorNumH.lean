import Derived.Test.YtjohnhaahpggkabDoorNumG
namespace Go.Proofs.YtjohnhaahpggkabDoor
open Go.RowKit
set_option linter.unusedVariables false

theorem DigRes.le {O : Bool} {V M v : Nat} (h : DigRes O V M v) : v ≤ M := h.2
theorem hid_of {p : Prop} (h : p) : Hid p := h

/-- What a reader of durations tells. -/
def DurRes (R : Option Nat) (ok : Bool) (v : Nat) : Prop := ok = R.isSome ∧ ∀ V, R = some V → Cl v V

/-- A round's state: the units that are left, the text that is left, the sum so far. -/
def Dur (R : Option Nat) (us : List (UInt8 × Nat)) (t : ByteArray) (v : Nat) : Prop :=
  ∃ acc, Cl v acc ∧ (durOf us t.data.toList).map (acc + ·) = R ∧ ∀ j (hj : j < t.size), ¬ t[j] = 95

theorem Dur.miss {R : Option Nat} {us : List (UInt8 × Nat)} {t : ByteArray} {v : Nat} {u : UInt8} {k : Nat} (h : Dur R ((u, k) :: us) t v) (hm : ∀ j (hj : j < t.size), ¬ t[j] = u) : Dur R us t v := by
  obtain ⟨acc, h1, h2, h3⟩ := h
  exact ⟨acc, h1, by rw [← h2, dur_step_miss t u k us hm], h3⟩
theorem Dur.hit {R : Option Nat} {us : List (UInt8 × Nat)} {t : ByteArray} {v d n : Nat} {u : UInt8} {k : Nat} (h : Dur R ((u, k) :: us) t v) (hu : isD u = false) (hk : 1 ≤ k) (i : Nat) (hi : i < t.size) (e : t[i] = u)
    (hok : okD 10 true true (t.extract 0 i).data.toList = true) (hd : DigRes (okD 10 true true (t.extract 0 i).data.toList) (valD 10 0 (t.extract 0 i).data.toList) 2147483648 d) (hn : n = v + d * k) : Dur R us (t.extract (i + 1) t.size) n := by
  obtain ⟨acc, h1, h2, h3⟩ := h
  refine ⟨acc + valD 10 0 (t.extract 0 i).data.toList * k, h1.step k hk (hd.1 hok) hn rfl, ?_, no95_tail t _ h3⟩
  rw [← h2, dur_step_hit t u k us hu i hi e h3 hok, Option.map_map]
  congr 1; funext x; simp; omega
theorem Dur.ill {R : Option Nat} {us : List (UInt8 × Nat)} {t : ByteArray} {v : Nat} {u : UInt8} {k : Nat} (h : Dur R ((u, k) :: us) t v) (hu : isD u = false) (hus : u ∉ us.map (·.1)) (i : Nat) (hi : i < t.size) (e : t[i] = u) (hf : ∀ j (hj : j < t.size), j < i → ¬ t[j] = u)
    (hok : okD 10 true true (t.extract 0 i).data.toList = false) : R = none := by
  obtain ⟨acc, h1, h2, h3⟩ := h
  rw [← h2, dur_step_ill t u k us hu hus i hi e hf hok]; rfl
theorem Dur.done {R : Option Nat} {t : ByteArray} {v : Nat} (h : Dur R [] t v) : DurRes R t.toList.isEmpty v := by
  obtain ⟨acc, h1, h2, h3⟩ := h
  rw [Lib.toList_data]
  unfold durOf at h2
  by_cases ht : t.data.toList = []
  · rw [if_pos ht] at h2
    refine ⟨by rw [← h2, ht]; rfl, fun V hV => ?_⟩
    rw [← h2] at hV; simp at hV; rw [← hV]; exact h1
  · rw [if_neg ht] at h2
    have e : t.data.toList.isEmpty = false := by
      cases hl : t.data.toList with
      | nil => exact absurd hl ht
      | cons a l => rfl
    refine ⟨by rw [← h2, e]; rfl, fun V hV => ?_⟩
    rw [← h2] at hV; simp at hV
theorem DurRes.none {R : Option Nat} {v : Nat} (h : R = none) : DurRes R false v := ⟨by rw [h]; rfl, fun V hV => by rw [h] at hV; cases hV⟩

theorem contains95 (s : ByteArray) : decide (0 ≤ Lib.indexByte s.data.toList 95) = true ↔ ∃ i, ∃ hi : i < s.size, s[i] = 95 := by
  rcases find_byte s 95 with h | ⟨i, hi, e, hf⟩
  · rw [indexByte_miss 95 s.data.toList (fun j hj => h j (by simpa using hj))]
    simp
    exact h
  · rw [indexByte_hit 95 s.data.toList i (by simpa using hi) e (fun j hj hji => hf j (by simpa using hj) hji)]
    simp
    exact ⟨i, hi, e⟩

theorem unit0 (w : World) : (Instr.index 112 (.agg #[.string ⟨#[104]⟩, .int .i64 3600, .string ⟨#[109]⟩, .int .i64 60, .string ⟨#[115]⟩, .int .i64 1]) (.int .i64 0)).run Tryd.prog w = .ok (.agg #[.string ⟨#[104]⟩, .int .i64 3600]) w := by
  simp [Instr.index, run_underlying Tryd.underlying112, asIntOf, go_sem]
theorem unit1 (w : World) : (Instr.index 112 (.agg #[.string ⟨#[104]⟩, .int .i64 3600, .string ⟨#[109]⟩, .int .i64 60, .string ⟨#[115]⟩, .int .i64 1]) (.int .i64 1)).run Tryd.prog w = .ok (.agg #[.string ⟨#[109]⟩, .int .i64 60]) w := by
  simp [Instr.index, run_underlying Tryd.underlying112, asIntOf, go_sem]
theorem unit2 (w : World) : (Instr.index 112 (.agg #[.string ⟨#[104]⟩, .int .i64 3600, .string ⟨#[109]⟩, .int .i64 60, .string ⟨#[115]⟩, .int .i64 1]) (.int .i64 2)).run Tryd.prog w = .ok (.agg #[.string ⟨#[115]⟩, .int .i64 1]) w := by
  simp [Instr.index, run_underlying Tryd.underlying112, asIntOf, go_sem]

theorem hms_no95 (l : List UInt8) (h : (95 : UInt8) ∈ l) : durOf hms l = none := durOf_bad hms l 95 h (by decide) (by decide)

set_option maxRecDepth 100000 in
set_option maxHeartbeats 4000000 in
theorem durationValue_any (s : ByteArray) (w : World) (hs : s.size < 4611686018427387904) :
    Calls Tryd.prog 69 #[.string s] w fun e w' => (∃ (v : Nat) (ok : Bool), e = .returned (.tuple #[.int .i64 v, .bool ok]) ∧ v ≤ 9007199254740992 ∧ DurRes (durOf hms s.data.toList) ok v) ∧ Below w.heap.size w w' := by
  have hC := fun w => Tryd.strings_Contains_one s 95 w
  have hc95 := contains95 s
  by_cases h95 : ∃ i, ∃ hi : i < s.size, s[i] = 95
  · have hR : Hid (durOf hms s.data.toList = none) := hms_no95 _ ((mem_get s 95).2 h95)
    rw [hc95.2 h95] at hC
    clear hc95 h95
    generalize durOf hms s.data.toList = R at hR ⊢
    go_enter Tryd.func69, Tryd.ntmps69
    go_wp2_with (go_at_call 74; with_reducible refine (hC _).mono ?_; rintro e w' ⟨rfl, hwe⟩; subst hwe)
    go_ret2
    exact ⟨⟨0, false, rfl, by omega, DurRes.none hR.out⟩, Below.refl _ _⟩
  · have hf : decide (0 ≤ Lib.indexByte s.data.toList 95) = false := by rw [← Bool.not_eq_true, hc95]; exact h95
    rw [hf] at hC
    have hD : Hid (Dur (durOf hms s.data.toList) (hms.drop 0) s 0) := ⟨0, Cl.zero, by simp, fun j hj e => h95 ⟨j, hj, e⟩⟩
    clear hc95 h95 hf
    generalize durOf hms s.data.toList = R at hD ⊢
    go_enter Tryd.func69, Tryd.ntmps69
    go_wp2_with (go_at_call 74; with_reducible refine (hC _).mono ?_; rintro e w' ⟨rfl, hwe⟩; subst hwe)
    go_loopw [0, 4, 18] (fun ts tv ti wr => ∃ (k v : Nat) (t : ByteArray), k ≤ 3 ∧ ti = .int .i64 k ∧ tv = .int .i64 v ∧ ts = .string t ∧ t.size ≤ s.size ∧ v ≤ k * 7730941132800 ∧ Below w'.heap.size w' wr ∧ Dur R (hms.drop k) t v) (fun _ _ ti _ => 3 - (intOf ti).toNat)
    case atStart => exact ⟨0, 0, s, by omega, rfl, rfl, rfl, Nat.le_refl _, by omega, Below.refl _ _, hD.out⟩
    case round =>
      obtain ⟨k, v, t, hk, rfl, rfl, rfl, hts, hv, hB, hd⟩ := hrel
      have hts2 : t.size < 4611686018427387904 := by omega
      have hk' : k = 0 ∨ k = 1 ∨ k = 2 ∨ k = 3 := by omega
      rcases hk' with rfl | rfl | rfl | rfl
      · have hU := unit0
        have hv' : v ≤ 0 := by omega
        rcases find_byte t 104 with hm | ⟨i, hi, he, hf⟩
        · have hCut := fun w => cut_miss t 104 w hts2 hm
          have HD : Hid (Dur R (hms.drop 1) t v) := hd.miss hm
          clear hd hm
          go_wp2_with (go_at_call 75; with_reducible refine (hCut _).mono ?_; rintro e w1 ⟨rfl, n, hwe⟩; subst hwe)
          go_roundw
          case rel => exact ⟨1, v, t, by omega, by go_num, rfl, rfl, hts, by omega, bel_drewN (hB.alloc hB.size _), HD.out⟩
          case measure => simp [intOf]
        · have hCut := fun w => cut_hit t 104 i hi w hts2 he hf
          have hDg := fun w => digitsValue10 (t.extract 0 i) w (by simp; omega)
          have hle : (t.extract (i + 1) t.size).size ≤ s.size := by simp; omega
          cases hok : okD 10 true true (t.extract 0 i).data.toList with
          | true =>
            have HD : Hid (∀ d n, DigRes true (valD 10 0 (t.extract 0 i).data.toList) 2147483648 d → n = v + d * 3600 → Dur R (hms.drop 1) (t.extract (i + 1) t.size) n) := fun d n h1 h2 => hd.hit (by decide) (by omega) i hi he hok (by rw [hok]; exact h1) h2
            rw [hok] at hDg
            clear hd hok hf he
            generalize valD 10 0 (t.extract 0 i).data.toList = X at hDg HD
            generalize t.extract 0 i = T0 at hDg hCut
            generalize t.extract (i + 1) t.size = T1 at hCut HD hle
            go_wp2_with (first
              | (go_at_call 75; with_reducible refine (hCut _).mono ?_; rintro e w1 ⟨rfl, n, hwe⟩; subst hwe)
              | (go_at_call 68; with_reducible refine (hDg _).mono ?_; rintro e w2 ⟨⟨d, rfl, hdr⟩, hwe⟩; subst hwe; have hd2 := DigRes.le hdr; have HR := hid_of hdr; clear hdr))
            go_roundw
            case rel => exact ⟨1, v + d * 3600, T1, by omega, by go_num, by go_num, rfl, hle, by omega, bel_drewN (hB.alloc hB.size _), HD.out d _ HR.out rfl⟩
            case measure => simp [intOf]
          | false =>
            have HN : Hid (R = none) := hd.ill (by decide) (by decide) i hi he hf hok
            rw [hok] at hDg
            clear hd hok hf he
            generalize valD 10 0 (t.extract 0 i).data.toList = X at hDg
            generalize t.extract 0 i = T0 at hDg hCut
            generalize t.extract (i + 1) t.size = T1 at hCut hle
            go_wp2_with (first
              | (go_at_call 75; with_reducible refine (hCut _).mono ?_; rintro e w1 ⟨rfl, n, hwe⟩; subst hwe)
              | (go_at_call 68; with_reducible refine (hDg _).mono ?_; rintro e w2 ⟨⟨d, rfl, hdr⟩, hwe⟩; subst hwe; clear hdr))
            go_ret2
            exact ⟨⟨0, false, rfl, by omega, DurRes.none HN.out⟩, bel_drewN (hB.alloc hB.size _)⟩
      · have hU := unit1
        have hv' : v ≤ 7730941132800 := by omega
        rcases find_byte t 109 with hm | ⟨i, hi, he, hf⟩
        · have hCut := fun w => cut_miss t 109 w hts2 hm
          have HD : Hid (Dur R (hms.drop 2) t v) := hd.miss hm
          clear hd hm
          go_wp2_with (go_at_call 75; with_reducible refine (hCut _).mono ?_; rintro e w1 ⟨rfl, n, hwe⟩; subst hwe)
          go_roundw
          case rel => exact ⟨2, v, t, by omega, by go_num, rfl, rfl, hts, by omega, bel_drewN (hB.alloc hB.size _), HD.out⟩
          case measure => simp [intOf]
        · have hCut := fun w => cut_hit t 109 i hi w hts2 he hf
          have hDg := fun w => digitsValue10 (t.extract 0 i) w (by simp; omega)
          have hle : (t.extract (i + 1) t.size).size ≤ s.size := by simp; omega
          cases hok : okD 10 true true (t.extract 0 i).data.toList with
          | true =>
            have HD : Hid (∀ d n, DigRes true (valD 10 0 (t.extract 0 i).data.toList) 2147483648 d → n = v + d * 60 → Dur R (hms.drop 2) (t.extract (i + 1) t.size) n) := fun d n h1 h2 => hd.hit (by decide) (by omega) i hi he hok (by rw [hok]; exact h1) h2
            rw [hok] at hDg
            clear hd hok hf he
            generalize valD 10 0 (t.extract 0 i).data.toList = X at hDg HD
            generalize t.extract 0 i = T0 at hDg hCut
            generalize t.extract (i + 1) t.size = T1 at hCut HD hle
            go_wp2_with (first
              | (go_at_call 75; with_reducible refine (hCut _).mono ?_; rintro e w1 ⟨rfl, n, hwe⟩; subst hwe)
              | (go_at_call 68; with_reducible refine (hDg _).mono ?_; rintro e w2 ⟨⟨d, rfl, hdr⟩, hwe⟩; subst hwe; have hd2 := DigRes.le hdr; have HR := hid_of hdr; clear hdr))
            go_roundw
            case rel => exact ⟨2, v + d * 60, T1, by omega, by go_num, by go_num, rfl, hle, by omega, bel_drewN (hB.alloc hB.size _), HD.out d _ HR.out rfl⟩
            case measure => simp [intOf]
          | false =>
            have HN : Hid (R = none) := hd.ill (by decide) (by decide) i hi he hf hok
            rw [hok] at hDg
            clear hd hok hf he
            generalize valD 10 0 (t.extract 0 i).data.toList = X at hDg
            generalize t.extract 0 i = T0 at hDg hCut
            generalize t.extract (i + 1) t.size = T1 at hCut hle
            go_wp2_with (first
              | (go_at_call 75; with_reducible refine (hCut _).mono ?_; rintro e w1 ⟨rfl, n, hwe⟩; subst hwe)
              | (go_at_call 68; with_reducible refine (hDg _).mono ?_; rintro e w2 ⟨⟨d, rfl, hdr⟩, hwe⟩; subst hwe; clear hdr))
            go_ret2
            exact ⟨⟨0, false, rfl, by omega, DurRes.none HN.out⟩, bel_drewN (hB.alloc hB.size _)⟩
      · have hU := unit2
        have hv' : v ≤ 15461882265600 := by omega
        rcases find_byte t 115 with hm | ⟨i, hi, he, hf⟩
        · have hCut := fun w => cut_miss t 115 w hts2 hm
          have HD : Hid (Dur R (hms.drop 3) t v) := hd.miss hm
          clear hd hm
          go_wp2_with (go_at_call 75; with_reducible refine (hCut _).mono ?_; rintro e w1 ⟨rfl, n, hwe⟩; subst hwe)
          go_roundw
          case rel => exact ⟨3, v, t, by omega, by go_num, rfl, rfl, hts, by omega, bel_drewN (hB.alloc hB.size _), HD.out⟩
          case measure => simp [intOf]
        · have hCut := fun w => cut_hit t 115 i hi w hts2 he hf
          have hDg := fun w => digitsValue10 (t.extract 0 i) w (by simp; omega)
          have hle : (t.extract (i + 1) t.size).size ≤ s.size := by simp; omega
          cases hok : okD 10 true true (t.extract 0 i).data.toList with
          | true =>
            have HD : Hid (∀ d n, DigRes true (valD 10 0 (t.extract 0 i).data.toList) 2147483648 d → n = v + d * 1 → Dur R (hms.drop 3) (t.extract (i + 1) t.size) n) := fun d n h1 h2 => hd.hit (by decide) (by omega) i hi he hok (by rw [hok]; exact h1) h2
            rw [hok] at hDg
            clear hd hok hf he
            generalize valD 10 0 (t.extract 0 i).data.toList = X at hDg HD
            generalize t.extract 0 i = T0 at hDg hCut
            generalize t.extract (i + 1) t.size = T1 at hCut HD hle
            go_wp2_with (first
              | (go_at_call 75; with_reducible refine (hCut _).mono ?_; rintro e w1 ⟨rfl, n, hwe⟩; subst hwe)
              | (go_at_call 68; with_reducible refine (hDg _).mono ?_; rintro e w2 ⟨⟨d, rfl, hdr⟩, hwe⟩; subst hwe; have hd2 := DigRes.le hdr; have HR := hid_of hdr; clear hdr))
            go_roundw
            case rel => exact ⟨3, v + d * 1, T1, by omega, by go_num, by go_num, rfl, hle, by omega, bel_drewN (hB.alloc hB.size _), HD.out d _ HR.out rfl⟩
            case measure => simp [intOf]
          | false =>
            have HN : Hid (R = none) := hd.ill (by decide) (by decide) i hi he hf hok
            rw [hok] at hDg
            clear hd hok hf he
            generalize valD 10 0 (t.extract 0 i).data.toList = X at hDg
            generalize t.extract 0 i = T0 at hDg hCut
            generalize t.extract (i + 1) t.size = T1 at hCut hle
            go_wp2_with (first
              | (go_at_call 75; with_reducible refine (hCut _).mono ?_; rintro e w1 ⟨rfl, n, hwe⟩; subst hwe)
              | (go_at_call 68; with_reducible refine (hDg _).mono ?_; rintro e w2 ⟨⟨d, rfl, hdr⟩, hwe⟩; subst hwe; clear hdr))
            go_ret2
            exact ⟨⟨0, false, rfl, by omega, DurRes.none HN.out⟩, bel_drewN (hB.alloc hB.size _)⟩
      · have HD : Hid (DurRes R t.toList.isEmpty v) := hd.done
        clear hd
        go_wp2
        go_ret2
        exact ⟨⟨v, _, rfl, by omega, by exact HD.out⟩, hB⟩
end Go.Proofs.YtjohnhaahpggkabDoor
