import Derived.Test.YtcajejfddfiidaaDoorInF
import Derived.Test.YtcajejfddfiidaaDoorInI
import Derived.Test.YtcajejfddfiidaaDoorInK
namespace Go.Proofs.YtcajejfddfiidaaDoor
open Go.RowKit
set_option linter.unusedVariables false
set_option linter.unusedSimpArgs false

def uv (x : Int) : Value := .int .u64 x
theorem own_bel {w w' : World} {base e size n : Nat} {v : Value} {xs : List Value} (h : w.ownsRow base e size v n xs) (hb : Below w.heap.size w w') : w'.ownsRow base e size v n xs := own_only h (Only.of_below (S := fun _ => False) hb) (fun _ _ h => h)
theorem cells_ten {W : World} (xs : List Value) (t : TypeId) : ∀ j u, xs[j]? = some u → (W.alloc (.cells xs.toArray t)).cell? ((⟨W.heap.size, 0, none⟩ : Addr).add j) = some u := by
  intro j u h
  have := (Has.new W xs.toArray t rfl).2.1 j
  have e : ((⟨W.heap.size, 0, none⟩ : Addr).add j) = ⟨W.heap.size, j, none⟩ := by
    rw [Go.WideShapes.add_plain, Nat.zero_add]
  rw [e, this]
  simpa using h
theorem belN1 {w : World} {o1 : Obj} : Below w.heap.size w (w.alloc o1) := (Below.refl _ _).alloc (Nat.le_refl _) _
/-- Ticks, word by word. -/
def inF (ok : Nat → List UInt8 → Option (Nat × Nat)) : List (List UInt8) → List Int → Option (List Int)
  | [], L => some L
  | x :: xs, L => match ok L.length x with
    | none => none
    | some p => inF ok xs (L ++ List.replicate p.1 (p.2 : Int))
theorem ws_word (X : List UInt8) (i k : Nat) (h : ∀ b ∈ (X.drop i).take (k - i), blU b = false) (hik : i < k) (hk : k ≤ X.length) (he : k = X.length ∨ ∃ h : k < X.length, blU X[k] = true) : wsA [] (X.drop i) = (X.drop i).take (k - i) :: wsA [] (X.drop k) := by
  have hs := ws_skip X [] i (k - i) h
  rw [show i + (k - i) = k by omega, List.nil_append] at hs
  rw [hs]
  have hne : (X.drop i).take (k - i) ≠ [] := by
    intro e
    have := congrArg List.length e
    rw [List.length_take, List.length_drop] at this
    simp at this
    omega
  rcases he with he | ⟨hk2, hb⟩
  · subst he
    rw [show X.drop X.length = [] from List.drop_eq_nil_of_le (Nat.le_refl _), wsA, if_neg hne, wsA, if_pos rfl]
  · rw [List.drop_eq_getElem_cons hk2, wsA, if_pos hb, if_neg hne, wsA, if_pos hb, if_pos rfl]
theorem ws_blank (X : List UInt8) (i : Nat) (h : i < X.length) (hb : blU X[i] = true) : wsA [] (X.drop i) = wsA [] (X.drop (i + 1)) := by
  rw [List.drop_eq_getElem_cons h, wsA, if_pos hb, if_pos rfl]
def InP (o : Option (List Int)) (w : World) (e : Ending) (w' : World) : Prop := (match o with
  | none => e = .returned (.tuple #[.slice none 0 0, .int .i64 141])
  | some L => ∃ v, e = .returned (.tuple #[v, .int .i64 0]) ∧ w'.ownsRow w.heap.size 26 1 v L.length (L.map uv) ∧ L.length ≤ 65536) ∧ Below w.heap.size w w'
theorem blB_U (c : UInt8) : blB (c.toNat : Int) = blU c := by
  unfold blB blU
  rw [decide_eq_decide]
  omega
theorem bs_at (X : List UInt8) (i : Nat) (h : i < X.length) (h' : i < (bs X).size) : (bs X)[i] = X[i] := by
  first
    | rfl
    | (simp [bs, ByteArray.getElem_eq_getElem_data]; done)
    | (simp only [bs, ByteArray.getElem_eq_getElem_data]; exact List.getElem_toArray ..)
    | (simp [bs, ByteArray.getElem_eq_getElem_data]; rfl)
theorem okW_spec {len : Nat} {x : List UInt8} {p : Nat × Nat} (h : okW len x = some p) : wdF ⟨x.toArray⟩ = p ∧ p.1 ≠ 0 ∧ len + p.1 ≤ 65536 := by
  unfold okW at h
  split at h
  · cases h
  · rename_i hn
    injection h with h
    subst h
    exact ⟨rfl, fun e => hn (.inl e), by omega⟩
theorem numF_le : ∀ (l : List UInt8) (m k : Nat), m ≤ 65537 → numF m l = some k → k ≤ 65537
  | [], m, k, hm, h => by simp [numF] at h; omega
  | c :: r, m, k, hm, h => by
    unfold numF at h
    split at h
    · exact numF_le r _ k (by omega) h
    · cases h
theorem wdF_le (d : ByteArray) : (wdF d).1 ≤ 65537 := by
  unfold wdF
  split
  · split
    · simp
    · rename_i n hn
      have := numF_le _ 0 n (by omega) hn
      unfold tlF
      split
      · simp
      · split <;> simp <;> omega
  · unfold tlF
    split
    · simp
    · split <;> simp
theorem hexF_lt : ∀ (l : List UInt8) (x v i : Nat), x < 16 ^ i → i + l.length ≤ 16 → hexF x l = some v → v < 18446744073709551616
  | [], x, v, i, hx, hi, h => by
    simp [hexF] at h
    have h1 : (16 : Nat) ^ i ≤ 16 ^ 16 := Nat.pow_le_pow_right (by decide) (by simpa using hi)
    have h2 : (16 : Nat) ^ 16 = 18446744073709551616 := by decide
    omega
  | c :: r, x, v, i, hx, hi, h => by
    unfold hexF at h
    split at h
    · cases h
    · have hv := hxV_top (c.toNat : Int)
      simp at hi
      exact hexF_lt r _ v (i + 1) (hex_room hx (by omega) ⟨by omega, hv.1⟩).1 (by omega) h
theorem okW_none {len : Nat} {x : List UInt8} (h : okW len x = none) : (wdF ⟨x.toArray⟩).1 = 0 ∨ 65536 < len + (wdF ⟨x.toArray⟩).1 := by
  unfold okW at h
  split at h
  · assumption
  · cases h
set_option maxRecDepth 100000 in
set_option maxHeartbeats 2000000 in
theorem refInputs_any (X : List UInt8) (w : World) (hX : X.length ≤ 140737488355328) : Calls Tryd.prog 8 #[.string (bs X)] w fun e w' => InP (inF okW (wsA [] X) []) w e w' := by
  obtain ⟨ti, hi, hx⟩ := Option.map_eq_some_iff.1 infoU
  have hi0 : ti.zero = some (.int .u64 0) := congrArg (·.1) hx
  have hi1 : ti.size = 1 := congrArg (·.2.1) hx
  have hi2 : ti.bytes = 8 := congrArg (·.2.2) hx
  have hbl := fun (c : UInt8) (W : World) => blank_any (c.toNat : Int) W
  obtain ⟨o, ho⟩ : ∃ o, inF okW (wsA [] X) [] = o := ⟨_, rfl⟩
  rw [ho]
  have zX := bs_size X
  have ho' : Hid (inF okW (wsA [] X) [] = o) := ho
  clear ho
  go_enter Tryd.func8, Tryd.ntmps8
  go_wp2_with fail
  go_loopw [4, 5] (fun a b wr => ∃ (L : List Int) (ad : Option Addr) (cp i : Nat), a = .slice ad L.length cp ∧ b = .int .i64 (i : Int) ∧ i ≤ X.length ∧ L.length ≤ 65536 ∧ Hid (inF okW (wsA [] (X.drop i)) L = o) ∧ Hid (wr.ownsRow w.heap.size 26 1 (.slice ad L.length cp) L.length (L.map uv)) ∧ Hid (Below w.heap.size w wr)) (fun _ b _ => X.length - (intOf b).toNat)
  case atStart => exact ⟨[], none, 0, 0, rfl, rfl, by omega, by simp, ho', World.ownsRow_nil _ _ _ _, Below.refl _ _⟩
  case round =>
    clear ho'
    obtain ⟨L, ad, cp, i, rfl, rfl, hi9, hL6, hq, hrow, hbel⟩ := hrel
    by_cases hlt : i < X.length
    case neg =>
      obtain rfl : i = X.length := by omega
      have t1 : ¬ (X.length : Int) < ((bs X).size : Int) := by rw [bs_size]; omega
      have hP : Hid (some L = o) := by
        show _ = _
        rw [← hq.out, List.drop_eq_nil_of_le (Nat.le_refl _)]
        rfl
      go_wp2_with fail
      go_ret2
      exact ⟨by rw [← hP.out]; exact ⟨_, rfl, hrow.out, hL6⟩, hbel.out⟩
    have t1 : (i : Int) < ((bs X).size : Int) := by rw [bs_size]; omega
    have t2 : (0 : Int) ≤ (i : Int) := by omega
    have hxi := bs_at X i hlt (by rw [bs_size]; exact hlt)
    have k18 := fun (W : World) => hbl X[i] W
    rw [blB_U] at k18
    cases hb : blU X[i] with
    | true =>
      rw [hb] at k18
      have hw1 : IntKind.i64.wrap ((i : Int) + 1) = (i : Int) + 1 := wrap64 _ (by omega)
      go_wp2_with (go_at_call 18; (with_reducible refine Calls.mono (k18 _) ?_); rintro e w1 ⟨rfl, hw⟩; have hw' := hw.symm; clear hw; subst hw')
      go_roundw
      case rel => exact ⟨L, ad, cp, i + 1, rfl, by go_num, by omega, hL6, by show _ = _; rw [← hq.out, ws_blank X i hlt hb], hrow, hbel⟩
      case measure => simp [intOf]; omega
    | false =>
      rw [hb] at k18
      have hbh : Hid (blU X[i] = false) := hb
      go_wp2_with (go_at_call 18; (with_reducible refine Calls.mono (k18 _) ?_); rintro e w1 ⟨rfl, hw⟩; have hw' := hw.symm; clear hw; subst hw')
      go_loopw [6] (fun s wr => ∃ k : Nat, i ≤ k ∧ k ≤ X.length ∧ s = .int .i64 (k : Int) ∧ Hid (∀ b ∈ (X.drop i).take (k - i), blU b = false) ∧ Hid (wr.ownsRow w.heap.size 26 1 (.slice ad L.length cp) L.length (L.map uv)) ∧ Hid (Below w.heap.size w wr)) (fun s _ => X.length - (intOf s).toNat)
      case atStart => exact ⟨i, by omega, by omega, rfl, by show ∀ _, _; simp, hrow, hbel⟩
      case round =>
        clear hrow hbel k18
        obtain ⟨k, hk1, hk2, rfl, hall, hrow2, hbel2⟩ := hrel
        by_cases hkl : k < X.length
        case neg =>
          have hkk : k = X.length := by omega
          have t3 : ¬ (k : Int) < ((bs X).size : Int) := by rw [bs_size]; omega
          have hE : Hid (k = X.length ∨ ∃ h : k < X.length, blU X[k] = true) := .inl hkk
          clear hkk
          have hik : i < k := by
            rcases Nat.lt_or_ge i k with h | h
            · exact h
            · exfalso
              obtain rfl : k = i := by omega
              rcases hE.out with h2 | ⟨h2, h3⟩
              · omega
              · have := hbh.out
                rw [h3] at this
                cases this
          have hq2 := hq.out
          rw [ws_word X i k hall.out hik hk2 hE.out] at hq2
          unfold inF at hq2
          have hsm := fun (W : World) => sl_mid X i k (by omega) hk2 W
          have hex := ext_bs X i k
          have hxl : ((X.drop i).take (k - i)).length ≤ X.length := by rw [List.length_take, List.length_drop]; omega
          generalize (X.drop i).take (k - i) = x at *
          have k19 := fun (W : World) => word_any (bs x) W (by rw [bs_size]; omega)
          have hle := wdF_le (bs x)
          have hokd : okW L.length x = (if (wdF (bs x)).1 = 0 ∨ 65536 < L.length + (wdF (bs x)).1 then none else some (wdF (bs x))) := rfl
          generalize wdF (bs x) = p at *
          obtain ⟨n, xv⟩ := p
          dsimp only at hle hokd
          unfold wdV at k19
          dsimp only at k19
          have wn : IntKind.i64.wrap ((L.length : Int) + (n : Int)) = (L.length : Int) + (n : Int) := wrap64 _ (by omega)
          by_cases n0 : n = 0
          · subst n0
            rw [hokd, if_pos (.inl rfl)] at hq2
            have hP : Hid (none = o) := hq2
            clear hq2 hokd hall hE hq
            go_wp2_with (go_at_call 19; (with_reducible refine Calls.mono (k19 _) ?_); rintro e w1 ⟨rfl, hw⟩; have hw' := hw.symm; clear hw; subst hw')
            go_ret2
            exact ⟨by rw [← hP.out]; rfl, hbel2.out⟩
          have n0' : ¬ (n : Int) = 0 := by omega
          have nb0 : ((n : Int) == 0) = false := by simpa using n0
          by_cases n6 : 65536 < L.length + n
          · rw [hokd, if_pos (.inr n6)] at hq2
            have hP : Hid (none = o) := hq2
            have n6' : (65536 : Int) < (L.length : Int) + (n : Int) := by omega
            clear hq2 hokd hall hE hq
            go_wp2_with (go_at_call 19; (with_reducible refine Calls.mono (k19 _) ?_); rintro e w1 ⟨rfl, hw⟩; have hw' := hw.symm; clear hw; subst hw')
            go_ret2
            exact ⟨by rw [← hP.out]; rfl, hbel2.out⟩
          have n6' : ¬ (65536 : Int) < (L.length : Int) + (n : Int) := by omega
          rw [hokd, if_neg (by omega)] at hq2
          dsimp only at hq2
          have hq3 : Hid (inF okW (wsA [] (X.drop k)) (L ++ List.replicate n (xv : Int)) = o) := hq2
          clear hq2 hokd hall hE hq
          go_wp2_with (go_at_call 19; (with_reducible refine Calls.mono (k19 _) ?_); rintro e w1 ⟨rfl, hw⟩; have hw' := hw.symm; clear hw; subst hw')
          go_loopw [4, 9] (fun a j wr => ∃ (t : Nat) (ad : Option Addr) (cp : Nat), t ≤ n ∧ a = .slice ad (L.length + t) cp ∧ j = .int .i64 (t : Int) ∧ Hid (wr.ownsRow w.heap.size 26 1 (.slice ad (L.length + t) cp) (L.length + t) ((L ++ List.replicate t (xv : Int)).map uv)) ∧ Hid (Below w.heap.size w wr)) (fun _ j _ => n - (intOf j).toNat)
          case atStart => exact ⟨0, ad, cp, by omega, rfl, rfl, by show World.ownsRow _ _ _ _ _ _ _; simpa using hrow2.out, hbel2⟩
          case round =>
            clear hrow2 hbel2 k19 hsm
            obtain ⟨t, ad2, cp2, ht, rfl, rfl, hr3, hb3⟩ := hrel
            by_cases htn : t < n
            case neg =>
              obtain rfl : t = n := by omega
              have u1 : ¬ (t : Int) < (t : Int) := by omega
              go_wp2_with fail
              go_roundw
              case rel =>
                have hlen : (L ++ List.replicate t (xv : Int)).length = L.length + t := by simp
                refine ⟨L ++ List.replicate t (xv : Int), ad2, cp2, k, by rw [hlen], rfl, hk2, by omega, hq3, ?_, hb3⟩
                show World.ownsRow _ _ _ _ _ _ _
                rw [hlen]
                exact hr3.out
              case measure => simp [intOf]; omega
            have u1 : (t : Int) < (n : Int) := by omega
            have ow1 := own_bel hr3.out (belN1 (o1 := .cells #[.int .u64 (xv : Int)] 26))
            have hsz : w.heap.size ≤ (wr.alloc (.cells #[.int .u64 (xv : Int)] 26)).heap.size := Nat.le_trans hb3.out.size (belN1).size
            go_wp2_with (at_builtin; (refine wpList_append_mine _ rfl _ _ 22 rfl w.heap.size 26 ti _ 1 8 Tryd.underlying22 hi hi0 hi1 hi2 rfl (by decide) (.slice ad2 (L.length + t) cp2) (L.length + t) ((L ++ List.replicate t (xv : Int)).map uv) rfl ow1 ⟨wr.heap.size, 0, none⟩ 1 1 [.int .u64 (xv : Int)] rfl rfl (cells_ten (W := wr) [.int .u64 (xv : Int)] 26) (by intro u hu; simp at hu; subst hu; rfl) (by decide) (by unfold maxLen; omega) (by omega) hsz ?_); intro g' cap' w' p1 p2 p3 p4 p5)
            go_roundw
            case rel =>
              refine ⟨t + 1, some ⟨g', 0, none⟩, cap', by omega, rfl, by go_num, ?_, grown_bel (B := w.heap.size) (hb3.out.alloc hb3.out.size _) p2 (Nat.le_refl _) (fun q hq => (own_lt hr3.out q hq).1)⟩
              show World.ownsRow _ _ _ _ _ _ _
              rw [show L ++ List.replicate (t + 1) (xv : Int) = L ++ List.replicate t (xv : Int) ++ [(xv : Int)] by rw [List.replicate_succ', List.append_assoc], List.map_append]
              exact p1
            case measure => simp [intOf]; omega
        have t3 : (k : Int) < ((bs X).size : Int) := by rw [bs_size]; omega
        have t4 : (0 : Int) ≤ (k : Int) := by omega
        have hxk := bs_at X k hkl (by rw [bs_size]; exact hkl)
        have j18 := fun (W : World) => hbl X[k] W
        rw [blB_U] at j18
        cases hbk : blU X[k] with
        | true =>
          rw [hbk] at j18
          have hE : Hid (k = X.length ∨ ∃ h : k < X.length, blU X[k] = true) := .inr ⟨hkl, hbk⟩
          have hik : i < k := by
            rcases Nat.lt_or_ge i k with h | h
            · exact h
            · exfalso
              obtain rfl : k = i := by omega
              rcases hE.out with h2 | ⟨h2, h3⟩
              · omega
              · have := hbh.out
                rw [h3] at this
                cases this
          have hq2 := hq.out
          rw [ws_word X i k hall.out hik hk2 hE.out] at hq2
          unfold inF at hq2
          have hsm := fun (W : World) => sl_mid X i k (by omega) hk2 W
          have hex := ext_bs X i k
          have hxl : ((X.drop i).take (k - i)).length ≤ X.length := by rw [List.length_take, List.length_drop]; omega
          generalize (X.drop i).take (k - i) = x at *
          have k19 := fun (W : World) => word_any (bs x) W (by rw [bs_size]; omega)
          have hle := wdF_le (bs x)
          have hokd : okW L.length x = (if (wdF (bs x)).1 = 0 ∨ 65536 < L.length + (wdF (bs x)).1 then none else some (wdF (bs x))) := rfl
          generalize wdF (bs x) = p at *
          obtain ⟨n, xv⟩ := p
          dsimp only at hle hokd
          unfold wdV at k19
          dsimp only at k19
          have wn : IntKind.i64.wrap ((L.length : Int) + (n : Int)) = (L.length : Int) + (n : Int) := wrap64 _ (by omega)
          by_cases n0 : n = 0
          · subst n0
            rw [hokd, if_pos (.inl rfl)] at hq2
            have hP : Hid (none = o) := hq2
            clear hq2 hokd hall hE hq
            go_wp2_with (first | (go_at_call 18; (with_reducible refine Calls.mono (j18 _) ?_); rintro e w1 ⟨rfl, hw⟩; have hw' := hw.symm; clear hw; subst hw') | (go_at_call 19; (with_reducible refine Calls.mono (k19 _) ?_); rintro e w1 ⟨rfl, hw⟩; have hw' := hw.symm; clear hw; subst hw'))
            go_ret2
            exact ⟨by rw [← hP.out]; rfl, hbel2.out⟩
          have n0' : ¬ (n : Int) = 0 := by omega
          have nb0 : ((n : Int) == 0) = false := by simpa using n0
          by_cases n6 : 65536 < L.length + n
          · rw [hokd, if_pos (.inr n6)] at hq2
            have hP : Hid (none = o) := hq2
            have n6' : (65536 : Int) < (L.length : Int) + (n : Int) := by omega
            clear hq2 hokd hall hE hq
            go_wp2_with (first | (go_at_call 18; (with_reducible refine Calls.mono (j18 _) ?_); rintro e w1 ⟨rfl, hw⟩; have hw' := hw.symm; clear hw; subst hw') | (go_at_call 19; (with_reducible refine Calls.mono (k19 _) ?_); rintro e w1 ⟨rfl, hw⟩; have hw' := hw.symm; clear hw; subst hw'))
            go_ret2
            exact ⟨by rw [← hP.out]; rfl, hbel2.out⟩
          have n6' : ¬ (65536 : Int) < (L.length : Int) + (n : Int) := by omega
          rw [hokd, if_neg (by omega)] at hq2
          dsimp only at hq2
          have hq3 : Hid (inF okW (wsA [] (X.drop k)) (L ++ List.replicate n (xv : Int)) = o) := hq2
          clear hq2 hokd hall hE hq
          go_wp2_with (first | (go_at_call 18; (with_reducible refine Calls.mono (j18 _) ?_); rintro e w1 ⟨rfl, hw⟩; have hw' := hw.symm; clear hw; subst hw') | (go_at_call 19; (with_reducible refine Calls.mono (k19 _) ?_); rintro e w1 ⟨rfl, hw⟩; have hw' := hw.symm; clear hw; subst hw'))
          go_loopw [4, 9] (fun a j wr => ∃ (t : Nat) (ad : Option Addr) (cp : Nat), t ≤ n ∧ a = .slice ad (L.length + t) cp ∧ j = .int .i64 (t : Int) ∧ Hid (wr.ownsRow w.heap.size 26 1 (.slice ad (L.length + t) cp) (L.length + t) ((L ++ List.replicate t (xv : Int)).map uv)) ∧ Hid (Below w.heap.size w wr)) (fun _ j _ => n - (intOf j).toNat)
          case atStart => exact ⟨0, ad, cp, by omega, rfl, rfl, by show World.ownsRow _ _ _ _ _ _ _; simpa using hrow2.out, hbel2⟩
          case round =>
            clear hrow2 hbel2 k19 hsm
            obtain ⟨t, ad2, cp2, ht, rfl, rfl, hr3, hb3⟩ := hrel
            by_cases htn : t < n
            case neg =>
              obtain rfl : t = n := by omega
              have u1 : ¬ (t : Int) < (t : Int) := by omega
              go_wp2_with fail
              go_roundw
              case rel =>
                have hlen : (L ++ List.replicate t (xv : Int)).length = L.length + t := by simp
                refine ⟨L ++ List.replicate t (xv : Int), ad2, cp2, k, by rw [hlen], rfl, hk2, by omega, hq3, ?_, hb3⟩
                show World.ownsRow _ _ _ _ _ _ _
                rw [hlen]
                exact hr3.out
              case measure => simp [intOf]; omega
            have u1 : (t : Int) < (n : Int) := by omega
            have ow1 := own_bel hr3.out (belN1 (o1 := .cells #[.int .u64 (xv : Int)] 26))
            have hsz : w.heap.size ≤ (wr.alloc (.cells #[.int .u64 (xv : Int)] 26)).heap.size := Nat.le_trans hb3.out.size (belN1).size
            go_wp2_with (at_builtin; (refine wpList_append_mine _ rfl _ _ 22 rfl w.heap.size 26 ti _ 1 8 Tryd.underlying22 hi hi0 hi1 hi2 rfl (by decide) (.slice ad2 (L.length + t) cp2) (L.length + t) ((L ++ List.replicate t (xv : Int)).map uv) rfl ow1 ⟨wr.heap.size, 0, none⟩ 1 1 [.int .u64 (xv : Int)] rfl rfl (cells_ten (W := wr) [.int .u64 (xv : Int)] 26) (by intro u hu; simp at hu; subst hu; rfl) (by decide) (by unfold maxLen; omega) (by omega) hsz ?_); intro g' cap' w' p1 p2 p3 p4 p5)
            go_roundw
            case rel =>
              refine ⟨t + 1, some ⟨g', 0, none⟩, cap', by omega, rfl, by go_num, ?_, grown_bel (B := w.heap.size) (hb3.out.alloc hb3.out.size _) p2 (Nat.le_refl _) (fun q hq => (own_lt hr3.out q hq).1)⟩
              show World.ownsRow _ _ _ _ _ _ _
              rw [show L ++ List.replicate (t + 1) (xv : Int) = L ++ List.replicate t (xv : Int) ++ [(xv : Int)] by rw [List.replicate_succ', List.append_assoc], List.map_append]
              exact p1
            case measure => simp [intOf]; omega
        | false =>
          rw [hbk] at j18
          have hw1 : IntKind.i64.wrap ((k : Int) + 1) = (k : Int) + 1 := wrap64 _ (by omega)
          have hall2 : Hid (∀ b ∈ (X.drop i).take (k + 1 - i), blU b = false) := by
            show ∀ _, _
            rw [← take_more X i k 1 hk1]
            intro b hb
            rcases List.mem_append.1 hb with h | h
            · exact hall.out b h
            · have h1 : (X.drop k).take 1 = [X[k]] := by rw [List.drop_eq_getElem_cons hkl]; rfl
              rw [h1] at h
              rw [List.mem_singleton.1 h]
              exact hbk
          go_wp2_with (go_at_call 18; (with_reducible refine Calls.mono (j18 _) ?_); rintro e w1 ⟨rfl, hw⟩; have hw' := hw.symm; clear hw; subst hw')
          go_roundw
          case rel => exact ⟨k + 1, by omega, by omega, by go_num, hall2, hrow2, hbel2⟩
          case measure => simp [intOf]; omega
end Go.Proofs.YtcajejfddfiidaaDoor
