import Derived.Test.YtjohnhaahpggkabDoorPcsA
import Derived.Laws.Strings2
namespace Go.Proofs.YtjohnhaahpggkabDoor
open Go.RowKit
set_option linter.unusedVariables false

/-- A hexadecimal digit's sign. -/
def hx (g : Bool) (d : Nat) : UInt8 := if d < 10 then UInt8.ofNat (48 + d) else if g = true then UInt8.ofNat (55 + d) else UInt8.ofNat (87 + d)
def hexL (g : Bool) (n : Nat) : List UInt8 := if h : n < 16 then [hx g n] else hexL g (n / 16) ++ [hx g (n % 16)]
termination_by n
decreasing_by omega
theorem hexL_small {g : Bool} {n : Nat} (h : n < 16) : hexL g n = [hx g n] := by rw [hexL, dif_pos h]
theorem hexL_big {g : Bool} {n : Nat} (h : ¬ n < 16) : hexL g n = hexL g (n / 16) ++ [hx g (n % 16)] := by rw [hexL, dif_neg h]
theorem hexL_len (g : Bool) (n : Nat) : 1 ≤ (hexL g n).length ∧ (hexL g n).length ≤ n + 1 := by
  induction n using Nat.strongRecOn with
  | ind n ih =>
    by_cases h : n < 16
    · rw [hexL_small h]; simp
    · rw [hexL_big h]
      have := ih (n / 16) (by omega)
      simp; omega

def hexits : ByteArray := ⟨#[48, 49, 50, 51, 52, 53, 54, 55, 56, 57, 97, 98, 99, 100, 101, 102, 65, 66, 67, 68, 69, 70]⟩
set_option maxRecDepth 100000 in
theorem hex_slice (w : World) (i : Int) (h0 : 0 ≤ i) (h1 : i < 22) : (Instr.slice 9 (.string ⟨#[48, 49, 50, 51, 52, 53, 54, 55, 56, 57, 97, 98, 99, 100, 101, 102, 65, 66, 67, 68, 69, 70]⟩) (some (.int .i64 i)) (some (.int .i64 (i + 1))) none).run Tryd.prog w = .ok (.string ⟨#[hexits.data[i.toNat]!]⟩) w := by
  have h : i = 0 ∨ i = 1 ∨ i = 2 ∨ i = 3 ∨ i = 4 ∨ i = 5 ∨ i = 6 ∨ i = 7 ∨ i = 8 ∨ i = 9 ∨ i = 10 ∨ i = 11 ∨ i = 12 ∨ i = 13 ∨ i = 14 ∨ i = 15 ∨ i = 16 ∨ i = 17 ∨ i = 18 ∨ i = 19 ∨ i = 20 ∨ i = 21 := by omega
  rcases h with rfl | rfl | rfl | rfl | rfl | rfl | rfl | rfl | rfl | rfl | rfl | rfl | rfl | rfl | rfl | rfl | rfl | rfl | rfl | rfl | rfl | rfl
  all_goals rfl
attribute [local go_sem] hex_slice
theorem hx_low (g : Bool) : ∀ d : Nat, d < 16 → (d < 10 ∨ g = false) → hexits.data[((d : Int)).toNat]! = hx g d := by
  cases g <;> decide
theorem hx_high : ∀ d : Nat, d < 16 → ¬ d < 10 → hexits.data[((d : Int) + 6).toNat]! = hx true d := by decide

set_option maxRecDepth 100000 in
set_option maxHeartbeats 2000000 in
theorem hex_any (n : Nat) (g : Bool) (w : World) (hn : n < 4611686018427387904) :
    Calls Tryd.prog 23 #[.int .i64 n, .bool g] w fun e w' => e = .returned (.string (bs (hexL g n))) ∧ Below w.heap.size w w' := by
  go_enter Tryd.func23, Tryd.ntmps23
  go_wp2
  go_loopw [0, 5] (fun t0 t3 wr => ∃ (m : Nat) (S : List UInt8), m ≤ n ∧ t0 = .int .i64 (m : Int) ∧ t3 = .string (bs S) ∧ hexL g m ++ S = hexL g n ∧ Below w.heap.size w wr) (fun t _ _ => (intOf t).toNat)
  case atStart => exact ⟨n, [], by omega, rfl, rfl, by simp, Below.refl _ _⟩
  case round =>
    obtain ⟨m, S, hm, rfl, rfl, hS, hb9⟩ := hrel
    have hlS : (hexL g m).length + S.length ≤ n + 1 := by
      have h1 := congrArg List.length hS
      have h2 := (hexL_len g n).2
      rw [List.length_append] at h1; omega
    have hm1 := (hexL_len g m).1
    have hsz : ¬ 9223372036854775807 < 1 + (bs S).size := by rw [bs_szp]; omega
    have hm0 : (0 : Int) ≤ (m : Int) := by omega
    have hd0 : (0 : Int) ≤ (m : Int) % 16 := by omega
    have hd1 : (m : Int) % 16 < 16 := by omega
    have hdm : ((m % 16 : Nat) : Int) = (m : Int) % 16 := by omega
    have hcat : ∀ c : UInt8, (⟨#[c]⟩ : ByteArray) ++ bs S = bs (c :: S) := fun c => rfl
    have hnx : Hid (¬ m < 16 → hexL g (m / 16) ++ (hx g (m % 16) :: S) = hexL g n) := fun h => by rw [← hS, hexL_big h, List.append_assoc]; rfl
    have hend : Hid (m < 16 → hx g (m % 16) :: S = hexL g n) := fun h => by rw [← hS, hexL_small h, Nat.mod_eq_of_lt h]; rfl
    have hlow : (m % 16 < 10 ∨ g = false) → hexits.data[((m : Int) % 16).toNat]! = hx g (m % 16) := fun h => by rw [← hdm]; exact hx_low g _ (by omega) h
    have hhigh : ¬ m % 16 < 10 → hexits.data[((m : Int) % 16 + 6).toNat]! = hx true (m % 16) := fun h => by rw [← hdm]; exact hx_high _ (by omega) h
    by_cases hg : g = true ∧ ¬ m % 16 < 10
    · obtain ⟨rfl, h10⟩ := hg
      have hv := hhigh h10
      have h9 : 9 < (m : Int) % 16 := by omega
      have hi0 : (0 : Int) ≤ (m : Int) % 16 + 6 := by omega
      have hi1 : (m : Int) % 16 + 6 < 22 := by omega
      clear hlow hhigh hS
      by_cases hlt : m < 16
      · have hq : (m : Int) / 16 = 0 := by omega
        have he := hend.out hlt
        clear hend hnx
        go_wp2
        go_ret
        exact ⟨rfl, hb9⟩
      · have hq : ((m : Int) / 16 == 0) = false := by simp; omega
        have he := hnx.out hlt
        clear hend hnx
        go_wp2
        go_roundw
        case rel => exact ⟨m / 16, _, by omega, by go_num, rfl, he, hb9⟩
        case measure => simp [intOf]; omega
    · have hi1 : (m : Int) % 16 < 22 := by omega
      cases g
      · have hv := hlow (.inr rfl)
        clear hlow hhigh hS
        by_cases hlt : m < 16
        · have hq : (m : Int) / 16 = 0 := by omega
          have he := hend.out hlt
          clear hend hnx
          go_wp2
          go_ret
          exact ⟨rfl, hb9⟩
        · have hq : ((m : Int) / 16 == 0) = false := by simp; omega
          have he := hnx.out hlt
          clear hend hnx
          go_wp2
          go_roundw
          case rel => exact ⟨m / 16, _, by omega, by go_num, rfl, he, hb9⟩
          case measure => simp [intOf]; omega
      · have h10 : m % 16 < 10 := by
          by_cases h : m % 16 < 10
          · exact h
          · exact absurd ⟨rfl, h⟩ hg
        have hv := hlow (.inl h10)
        have h9 : ¬ 9 < (m : Int) % 16 := by omega
        clear hlow hhigh hS
        by_cases hlt : m < 16
        · have hq : (m : Int) / 16 = 0 := by omega
          have he := hend.out hlt
          clear hend hnx
          go_wp2
          go_ret
          exact ⟨rfl, hb9⟩
        · have hq : ((m : Int) / 16 == 0) = false := by simp; omega
          have he := hnx.out hlt
          clear hend hnx
          go_wp2
          go_roundw
          case rel => exact ⟨m / 16, _, by omega, by go_num, rfl, he, hb9⟩
          case measure => simp [intOf]; omega

/-- Digits with a sign between each two. -/
def gapL : List UInt8 → List UInt8
  | [] => []
  | c :: r => c :: r.flatMap (fun x => [95, x])

theorem ext_one (l : List UInt8) (k : Nat) (h : k < l.length) : (bs l).extract k (k + 1) = bs [l[k]] := by
  have e := Lib.extract_data (bs l) k (k + 1)
  have : ((bs l).extract k (k + 1)).data.toList = [l[k]] := by
    rw [e]; unfold bs
    simp
    rw [List.drop_eq_getElem_cons h]; rfl
  have h2 : ((bs l).extract k (k + 1)).data = [l[k]].toArray := by rw [← this]
  cases hx : (bs l).extract k (k + 1) with
  | mk d => rw [hx] at h2; exact congrArg ByteArray.mk h2
theorem bs_app (a b : List UInt8) : bs a ++ bs b = bs (a ++ b) := by
  apply ByteArray.ext
  rw [ByteArray.data_append]
  unfold bs; simp
theorem sl_one (w : World) (B : ByteArray) (k : Nat) (h : k < B.size) : (Instr.slice 9 (.string B) (some (.int .i64 (k : Int))) (some (.int .i64 ((k : Int) + 1))) none).run Tryd.prog w = .ok (.string (B.extract k (k + 1))) w := by
  have := run_slice_string (P := Tryd.prog) (w := w) 9 B .i64 .i64 (k : Int) ((k : Int) + 1) und9 (by omega) (by omega) (by omega)
  simpa using this
theorem take_one (l : List UInt8) (h : 0 < l.length) : l.take 1 = [l[0]] := by
  cases l with
  | nil => simp at h
  | cons c r => rfl
theorem gap_snoc (l : List UInt8) (k : Nat) (h1 : 1 ≤ k) (h : k < l.length) : gapL (l.take (k + 1)) = gapL (l.take k) ++ [95, l[k]] := by
  cases l with
  | nil => simp at h
  | cons c r =>
    obtain ⟨m, rfl⟩ : ∃ m, k = m + 1 := ⟨k - 1, by omega⟩
    have hm : m < r.length := by simpa using h
    simp only [List.take_succ_cons, gapL, List.getElem_cons_succ]
    rw [List.take_succ_eq_append_getElem hm, List.flatMap_append]
    simp
theorem gap_len (l : List UInt8) : (gapL l).length ≤ 2 * l.length := by
  cases l with
  | nil => simp [gapL]
  | cons c r =>
    simp [gapL]
    have : ∀ r : List UInt8, (r.flatMap (fun x => [(95 : UInt8), x])).length = 2 * r.length := by
      intro r
      induction r with
      | nil => rfl
      | cons x r ih => rw [List.flatMap_cons, List.length_append, ih]; simp; omega
    have h := this r
    simp at h; omega

set_option maxRecDepth 100000 in
set_option maxHeartbeats 2000000 in
theorem gapped_any (l : List UInt8) (w : World) (hl : 1 ≤ l.length) (hl2 : l.length ≤ 1000000) :
    Calls Tryd.prog 24 #[.string (bs l)] w fun e w' => e = .returned (.string (bs (gapL l))) ∧ Below w.heap.size w w' := by
  have h1 : (1 : Int) ≤ ((bs l).size : Int) := by rw [bs_szp]; omega
  have hsz := bs_szp l
  have hx0 : (bs l).extract 0 1 = bs [l[0]] := ext_one l 0 (by omega)
  generalize hB : bs l = B at *
  go_enter Tryd.func24, Tryd.ntmps24
  go_wp2
  go_loopw [3, 4] (fun t3 t4 wr => ∃ k : Nat, 1 ≤ k ∧ k ≤ l.length ∧ t4 = .int .i64 (k : Int) ∧ t3 = .string (bs (gapL (l.take k))) ∧ wr = w) (fun _ t _ => l.length - (intOf t).toNat)
  case atStart => exact ⟨1, by omega, by omega, rfl, by rw [take_one l (by omega)]; rfl, rfl⟩
  case round =>
    obtain ⟨k, hk1, hk2, rfl, rfl, rfl⟩ := hrel
    by_cases hlt : k < l.length
    · have hx : B.extract k (k + 1) = bs [l[k]] := by rw [← hB]; exact ext_one l k hlt
      have hki : (k : Int) < (B.size : Int) := by omega
      have hk0 : (0 : Int) ≤ (k : Int) := by omega
      have hki1 : (k : Int) + 1 ≤ (B.size : Int) := by omega
      have hG : Hid (bs (gapL (l.take k)) ++ ⟨#[95]⟩ ++ bs [l[k]] = bs (gapL (l.take (k + 1)))) := by
        show _ = _
        rw [gap_snoc l k hk1 hlt, show (⟨#[95]⟩ : ByteArray) = bs [95] from rfl, bs_app, bs_app, List.append_assoc]; rfl
      have hgl : (bs (gapL (l.take k))).size ≤ 3000000 := by rw [bs_szp]; have := gap_len (l.take k); simp at this; omega
      generalize hGG : bs (gapL (l.take k)) = GG at *
      have hsl := fun W : World => sl_one W B k (by omega)
      rw [hx] at hsl
      have hgs : ¬ 9223372036854775807 < GG.size + 1 := by omega
      have hgs3 : ¬ 9223372036854775807 < GG.size + 1 + (bs [l[k]]).size := by rw [bs_szp]; simp; omega
      go_wp2
      go_roundw
      case rel => exact ⟨k + 1, by omega, by omega, by go_num, congrArg Value.string hG.out, by first | rfl | trivial⟩
      case measure => simp [intOf]; omega
    · obtain rfl : k = l.length := by omega
      rw [List.take_length]
      have hki : ¬ (l.length : Int) < (B.size : Int) := by omega
      go_wp2
      go_ret
      exact ⟨rfl, Below.refl _ _⟩

theorem isR_iff2 (c : UInt8) : isR c = true ↔ (97 ≤ c.toNat ∧ c.toNat ≤ 122 ∨ 65 ≤ c.toNat ∧ c.toNat ≤ 90) ∨ (48 ≤ c.toNat ∧ c.toNat ≤ 57) ∨ c.toNat = 95 := by
  unfold isR isL isD; simp [or_assoc]

/-- The place behind a text. -/
def behL (ln cl : Int) : List UInt8 → Int × Int
  | [] => (ln, cl)
  | c :: r => if c = 10 then behL (ln + 1) 1 r else behL ln (cl + 1) r
theorem behL_app (a b : List UInt8) : ∀ ln cl, behL ln cl (a ++ b) = behL (behL ln cl a).1 (behL ln cl a).2 b := by
  induction a with
  | nil => intro ln cl; rfl
  | cons c r ih =>
    intro ln cl
    simp only [List.cons_append, behL]
    split <;> exact ih _ _
theorem behL_bd (l : List UInt8) : ∀ ln cl, 0 ≤ ln → 0 ≤ cl → 0 ≤ (behL ln cl l).1 ∧ (behL ln cl l).1 ≤ ln + l.length ∧ 0 ≤ (behL ln cl l).2 ∧ (behL ln cl l).2 ≤ cl + 1 + l.length := by
  induction l with
  | nil => intro ln cl h1 h2; simp [behL]; omega
  | cons c r ih =>
    intro ln cl h1 h2
    simp only [behL, List.length_cons]
    split
    · have := ih (ln + 1) 1 (by omega) (by omega); omega
    · have := ih ln (cl + 1) (by omega) (by omega); omega

/-- The place behind the first k bytes. -/
def behK (s : ByteArray) (ln cl : Int) (k : Nat) : Int × Int := behL ln cl (s.data.toList.take k)
theorem behK_hit (s : ByteArray) (ln cl : Int) (k : Nat) (h : k < s.size) (e : (s[k].toNat : Int) = 10) : behK s ln cl (k + 1) = ((behK s ln cl k).1 + 1, 1) := by
  have e' : s[k] = 10 := by apply UInt8.toNat_inj.1; show s[k].toNat = 10; omega
  unfold behK; rw [take_snoc s k h, behL_app, e']; rfl
theorem behK_miss (s : ByteArray) (ln cl : Int) (k : Nat) (h : k < s.size) (e : ¬ (s[k].toNat : Int) = 10) : behK s ln cl (k + 1) = ((behK s ln cl k).1, (behK s ln cl k).2 + 1) := by
  have e' : ¬ s[k] = 10 := by intro x; rw [x] at e; exact e rfl
  unfold behK; rw [take_snoc s k h, behL_app]; simp [behL, e']

end Go.Proofs.YtjohnhaahpggkabDoor
