import Derived.Shelf.Strings.Search1
import Derived.Shelf.Strings.Search2
import Derived.Shelf.Strings.Search3
import Derived.Shelf.Strings.Cut
import Derived.Shelf.LaysM
import Derived.Shelf.Strings.Shaped
import Derived.Shelf.Strings.Prefix
import Derived.Test.YtnicolaphmffkaaGreatDoorProg
import Derived.Test.YtnicolaphmffkaaGreatDoorMaA
import Derived.ProofKit
import Derived.WalkKit
import Derived.Below
import Derived.WalkSmall
import Derived.Deep.LoopGhost
import Derived.Deep.CutRange
import Derived.Deep.RegionWith
import Derived.Deep.Light
import Derived.Deep.QuietTactic
import Derived.BigQuiet
namespace Go.Proofs.YtnicolaphmffkaaGreatDoor
set_option linter.unusedVariables false
set_option linter.unusedSimpArgs false

/-! Digits, numbers, durations: plain lists of bytes. -/
/-- A digit's value in base 16; 16 of what is none. -/
def dv (c : UInt8) : Nat := if 48 ≤ c.toNat ∧ c.toNat ≤ 57 then c.toNat - 48 else if 97 ≤ c.toNat ∧ c.toNat ≤ 102 then c.toNat - 87 else if 65 ≤ c.toNat ∧ c.toNat ≤ 70 then c.toNat - 55 else 16
def isD (c : UInt8) : Bool := decide (48 ≤ c.toNat ∧ c.toNat ≤ 57)
def isL (c : UInt8) : Bool := decide (97 ≤ c.toNat ∧ c.toNat ≤ 122 ∨ 65 ≤ c.toNat ∧ c.toNat ≤ 90)
def isR (c : UInt8) : Bool := isL c || isD c || decide (c.toNat = 95)

theorem isD_iff (c : UInt8) : isD c = true ↔ 48 ≤ c.toNat ∧ c.toNat ≤ 57 := by simp [isD]
theorem dv_digit {c : UInt8} (h : isD c = true) : dv c = c.toNat - 48 := by rw [isD_iff] at h; unfold dv; rw [if_pos h]
theorem dv_lt10 (c : UInt8) : dv c < 10 ↔ isD c = true := by
  rw [isD_iff]; unfold dv; split
  · omega
  · split
    · omega
    · split <;> omega
theorem dv_le (c : UInt8) : dv c ≤ 16 := by
  unfold dv; split
  · omega
  · split
    · omega
    · split <;> omega

/-- One or more digits of base b; where gaps are let (g), one byte 95 may stand between two. p: a 95 stands right ahead, or the begin. -/
def okD (b : Nat) (g : Bool) : Bool → List UInt8 → Bool
  | p, [] => !p
  | p, c :: l => if c.toNat = 95 then (if (p || !g) = true then false else okD b g true l) else if dv c < b then okD b g false l else false
/-- Their value. -/
def valD (b : Nat) : Nat → List UInt8 → Nat
  | a, [] => a
  | a, c :: l => if c.toNat = 95 then valD b a l else valD b (a * b + dv c) l

/-- The duration that is left: units with their worth, in their order. -/
def durOf : List (UInt8 × Nat) → List UInt8 → Option Nat
  | [], t => if t = [] then some 0 else none
  | (u, k) :: us, t =>
    if t.takeWhile isD ≠ [] ∧ (t.dropWhile isD).head? = some u then
      (durOf us (t.dropWhile isD).tail).map (valD 10 0 (t.takeWhile isD) * k + ·)
    else durOf us t

def hms : List (UInt8 × Nat) := [(104, 3600), (109, 60), (115, 1)]

theorem takeDrop (t : List UInt8) : t.takeWhile isD ++ t.dropWhile isD = t := List.takeWhile_append_dropWhile

theorem durOf_mem : ∀ (us : List (UInt8 × Nat)) (t : List UInt8) (v : Nat), durOf us t = some v → ∀ x ∈ t, isD x = true ∨ x ∈ us.map (·.1)
  | [], t, v, h, x, hx => by
    unfold durOf at h; split at h
    · rename_i e; subst e; simp at hx
    · cases h
  | (u, k) :: us, t, v, h, x, hx => by
    unfold durOf at h; split at h
    · rename_i hc
      obtain ⟨h1, h2⟩ := hc
      cases hd : durOf us (t.dropWhile isD).tail with
      | none => rw [hd] at h; simp at h
      | some v' =>
        have ih := durOf_mem us _ v' hd
        rw [← takeDrop t] at hx
        rcases List.mem_append.1 hx with hx | hx
        · left
          have := List.all_takeWhile (p := isD) (l := t)
          exact List.all_eq_true.1 this x hx
        · cases hdw : t.dropWhile isD with
          | nil => rw [hdw] at hx; simp at hx
          | cons y r =>
            rw [hdw] at h2 hx ih
            simp only [List.head?_cons, Option.some.injEq] at h2
            subst h2
            rcases List.mem_cons.1 hx with hx | hx
            · right; simp [hx]
            · rcases ih x (by simpa using hx) with h' | h'
              · exact .inl h'
              · right; simp only [List.map_cons, List.mem_cons]; exact .inr h'
    · rcases durOf_mem us t v h x hx with h' | h'
      · exact .inl h'
      · right; simp only [List.map_cons, List.mem_cons]; exact .inr h'

/-- A byte that is no digit and no unit: no duration. -/
theorem durOf_bad (us : List (UInt8 × Nat)) (t : List UInt8) (x : UInt8) (hx : x ∈ t) (h1 : isD x = false) (h2 : x ∉ us.map (·.1)) : durOf us t = none := by
  cases h : durOf us t with
  | none => rfl
  | some v =>
    rcases durOf_mem us t v h x hx with h' | h'
    · rw [h1] at h'; cases h'
    · exact absurd h' h2

theorem okD_digits (b : Nat) (g : Bool) (hb : 10 ≤ b) : ∀ (l : List UInt8) (p : Bool), (∀ x ∈ l, isD x = true) → okD b g p l = (if l = [] then !p else true)
  | [], p, _ => by simp [okD]
  | c :: l, p, h => by
    have hc : isD c = true := h c (by simp)
    have h95 : ¬ c.toNat = 95 := by have := (isD_iff c).1 hc; omega
    have hv : dv c < b := by have := (dv_lt10 c).2 hc; omega
    rw [okD, if_neg h95, if_pos hv, okD_digits b g hb l false (fun x hx => h x (by simp [hx]))]
    simp

theorem okD_only10 (g : Bool) : ∀ (l : List UInt8) (p : Bool), okD 10 g p l = true → (∀ x ∈ l, x.toNat ≠ 95) → ∀ x ∈ l, isD x = true
  | [], p, _, _, x, hx => by simp at hx
  | c :: l, p, h, h95, x, hx => by
    have hc : ¬ c.toNat = 95 := h95 c (by simp)
    rw [okD, if_neg hc] at h
    split at h
    · rename_i hv
      rcases List.mem_cons.1 hx with hx | hx
      · subst hx; exact (dv_lt10 x).1 hv
      · exact okD_only10 g l false h (fun y hy => h95 y (by simp [hy])) x hx
    · cases h

theorem okD_first (b : Nat) (g : Bool) (c : UInt8) (l : List UInt8) (h : okD b g true (c :: l) = true) : dv c < b ∧ c.toNat ≠ 95 := by
  rw [okD] at h
  split at h
  · simp at h
  · rename_i h95
    split at h
    · rename_i hv; exact ⟨hv, h95⟩
    · cases h

/-! A step of a duration by its first byte u. -/
theorem dur_hit (u : UInt8) (k : Nat) (us : List (UInt8 × Nat)) (d r : List UInt8) (hu : isD u = false) (hd : ∀ x ∈ d, isD x = true) (hne : d ≠ []) :
    durOf ((u, k) :: us) (d ++ u :: r) = (durOf us r).map (valD 10 0 d * k + ·) := by
  have e1 : (d ++ u :: r).takeWhile isD = d := by
    rw [List.takeWhile_append_of_pos hd, List.takeWhile_cons_of_neg (by simp [hu])]; simp
  have e2 : (d ++ u :: r).dropWhile isD = u :: r := by
    rw [List.dropWhile_append_of_pos hd, List.dropWhile_cons_of_neg (by simp [hu])]
  rw [durOf, e1, e2, if_pos ⟨hne, rfl⟩]; rfl

theorem dur_absent (u : UInt8) (k : Nat) (us : List (UInt8 × Nat)) (t : List UInt8) (h : u ∉ t) : durOf ((u, k) :: us) t = durOf us t := by
  rw [durOf, if_neg]
  rintro ⟨_, h2⟩
  have : u ∈ t.dropWhile isD := by
    cases hd : t.dropWhile isD with
    | nil => rw [hd] at h2; simp at h2
    | cons y r => rw [hd] at h2; simp at h2; simp [h2]
  exact h ((List.dropWhile_suffix isD).mem this)

theorem dur_ill (u : UInt8) (k : Nat) (us : List (UInt8 × Nat)) (d r : List UInt8) (hu : isD u = false) (hfirst : u ∉ d) (hill : d = [] ∨ ∃ x ∈ d, isD x = false) (hus : u ∉ us.map (·.1)) :
    durOf ((u, k) :: us) (d ++ u :: r) = none := by
  rw [durOf, if_neg]
  · exact durOf_bad us _ u (by simp) hu hus
  · rintro ⟨h1, h2⟩
    rcases hill with rfl | ⟨x, hx, hxd⟩
    · rw [List.nil_append, List.takeWhile_cons_of_neg (by simp [hu])] at h1; exact h1 rfl
    · -- the run of digits ends within d, at a byte that is not u
      have key : ∀ (d : List UInt8), u ∉ d → (∃ x ∈ d, isD x = false) → ((d ++ u :: r).dropWhile isD).head? ≠ some u := by
        intro d
        induction d with
        | nil => rintro _ ⟨x, hx, _⟩; simp at hx
        | cons c d ih =>
          intro hf hx
          by_cases hc : isD c = true
          · rw [List.cons_append, List.dropWhile_cons_of_pos hc]
            refine ih (fun h => hf (by simp [h])) ?_
            obtain ⟨x, hx, hxd⟩ := hx
            rcases List.mem_cons.1 hx with e | e
            · subst e; rw [hc] at hxd; cases hxd
            · exact ⟨x, e, hxd⟩
          · rw [List.cons_append, List.dropWhile_cons_of_neg hc]
            simp only [List.head?_cons, ne_eq, Option.some.injEq]
            intro e; exact hf (by simp [e])
      exact key d hfirst ⟨x, hx, hxd⟩ h2

/-- The number that a text is: none where it has no form. -/
def numOf (l : List UInt8) : Option Nat :=
  match l with
  | [] => none
  | c :: r =>
    if isD c = false then none
    else if c.toNat = 48 ∧ r.head? = some 120 then (if okD 16 true true r.tail = true then some (valD 16 0 r.tail) else none)
    else if okD 10 true true (c :: r) = true then some (valD 10 0 (c :: r))
    else durOf hms (c :: r)

/-- What Number answers of it. -/
def numV (o : Option Nat) : Int := match o with | none => 0 | some v => if v ≤ 2147483647 then v else 0
def numE (o : Option Nat) : Int := match o with | none => 22 | some v => if v ≤ 2147483647 then 0 else 23

end Go.Proofs.YtnicolaphmffkaaGreatDoor
namespace Go.Proofs.YtnicolaphmffkaaGreatDoor
set_option linter.unusedVariables false
set_option linter.unusedSimpArgs false

/-- The keywords, from 10 on. -/
def kwL : List (List UInt8) := [[112, 108, 97, 110], [99, 111, 110, 115, 116], [103, 114, 111, 117, 112], [118, 101, 104, 105, 99, 108, 101], [112, 101, 100, 101, 115, 116, 114, 105, 97, 110], [109, 105, 110], [97, 109, 98, 101, 114], [108, 101, 97, 100], [99, 111, 110, 102, 108, 105, 99, 116], [100, 101, 116, 101, 99, 116, 111, 114], [108, 97, 116, 99, 104], [100, 101, 108, 97, 121], [104, 111, 108, 100], [116, 105, 109, 101, 114], [99, 111, 117, 110, 116, 101, 114], [118, 97, 114], [99, 111, 110, 100], [115, 116, 97, 114, 116], [115, 116, 97, 103, 101], [103, 114, 101, 101, 110], [101, 110, 116, 101, 114], [100, 117, 114, 105, 110, 103], [108, 101, 97, 118, 101], [110, 101, 120, 116], [119, 104, 101, 110], [114, 101, 115, 101, 116], [114, 117, 110], [115, 116, 111, 112], [99, 111, 117, 110, 116], [99, 108, 101, 97, 114], [105, 102], [101, 108, 115, 101], [111, 114], [97, 110, 100], [110, 111, 116], [116, 114, 117, 101], [102, 97, 108, 115, 101], [101, 108, 97, 112, 115, 101, 100], [114, 101, 100], [109, 97, 120], [97, 98, 115]]
/-- The signs, from 60 on. -/
def sgL : List (List UInt8) := [[123], [125], [40], [41], [44], [59], [61], [61, 61], [33, 61], [60], [60, 61], [62], [62, 61], [43], [45], [42], [47], [37]]
def wordL (k : Nat) : List UInt8 := if 10 ≤ k ∧ k < 51 then kwL.getD (k - 10) [] else if 60 ≤ k ∧ k < 78 then sgL.getD (k - 60) [] else []

/-- The first that is l, counted from n on; -1: none. -/
def look : List (List UInt8) → List UInt8 → Nat → Int
  | [], _, _ => -1
  | a :: L, l, n => if a = l then (n : Int) else look L l (n + 1)
def kwK (l : List UInt8) : Int := look kwL l 10
def sgK (l : List UInt8) : Int := look sgL l 60

theorem look_drop (L : List (List UInt8)) (l : List UInt8) (i n : Nat) (h : i < L.length) : look (L.drop i) l n = if L.getD i [] = l then (n : Int) else look (L.drop (i + 1)) l (n + 1) := by
  rw [List.drop_eq_getElem_cons h, look]
  simp [List.getD, h]
theorem look_end (L : List (List UInt8)) (l : List UInt8) (i n : Nat) (h : L.length ≤ i) : look (L.drop i) l n = -1 := by
  rw [List.drop_eq_nil_of_le h, look]
theorem look_mem : ∀ (L : List (List UInt8)) (l : List UInt8) (n : Nat), (look L l n = -1 ∧ l ∉ L) ∨ ((n : Int) ≤ look L l n ∧ look L l n < n + L.length ∧ l ∈ L)
  | [], l, n => .inl ⟨rfl, by simp⟩
  | a :: L, l, n => by
    rw [look]
    by_cases h : a = l
    · rw [if_pos h]; right; exact ⟨Int.le_refl _, by simp; omega, by simp [h]⟩
    · rw [if_neg h]
      rcases look_mem L l (n + 1) with ⟨h1, h2⟩ | ⟨h1, h2, h3⟩
      · left; exact ⟨h1, by simp [h2]; exact fun e => h e.symm⟩
      · right; exact ⟨by omega, by simp at h2 ⊢; omega, by simp [h3]⟩
theorem kwK_mem (l : List UInt8) : (kwK l = -1 ∧ l ∉ kwL) ∨ (10 ≤ kwK l ∧ kwK l ≤ 50 ∧ l ∈ kwL) := by
  rcases look_mem kwL l 10 with h | ⟨h1, h2, h3⟩
  · exact .inl h
  · right; unfold kwK; have : kwL.length = 41 := rfl; exact ⟨by omega, by omega, h3⟩
theorem sgK_mem (l : List UInt8) : (sgK l = -1 ∧ l ∉ sgL) ∨ (60 ≤ sgK l ∧ sgK l ≤ 77 ∧ l ∈ sgL) := by
  rcases look_mem sgL l 60 with h | ⟨h1, h2, h3⟩
  · exact .inl h
  · right; unfold sgK; have : sgL.length = 18 := rfl; exact ⟨by omega, by omega, h3⟩

theorem kwL_shape : ∀ l ∈ kwL, l.length ≤ 32 ∧ 0 < l.length ∧ l.all isL = true := by decide
theorem sgL_shape : ∀ l ∈ sgL, (l.length = 1 ∨ l.length = 2) ∧ l.all (fun c => !isR c) = true := by decide

theorem wordL_kw (k : Nat) (h1 : 10 ≤ k) (h2 : k < 51) : wordL k = kwL.getD (k - 10) [] := by unfold wordL; rw [if_pos ⟨h1, h2⟩]
theorem wordL_sg (k : Nat) (h1 : 60 ≤ k) (h2 : k < 78) : wordL k = sgL.getD (k - 60) [] := by unfold wordL; rw [if_neg (by omega), if_pos ⟨h1, h2⟩]
/-- KindOf of what is no keyword and no sign. -/
def restK (l : List UInt8) : Int :=
  if l = [] ∨ l.all isR = false then -1 else if isL (l.headD 0) = true then (if 32 < l.length then -1 else 1) else if numE (numOf l) = 0 then 2 else -1
/-- KindOf, in the reference's words. -/
def kindL (l : List UInt8) : Int := if kwK l ≠ -1 then kwK l else if sgK l ≠ -1 then sgK l else restK l

/-- The run that a text begins with. -/
def runL (l : List UInt8) : List UInt8 := l.takeWhile isR

end Go.Proofs.YtnicolaphmffkaaGreatDoor
namespace Go.Proofs
open Go.Shelf
def Tryz.lays219_ren : Go.Shelf.Ren := ⟨fun | 219 => 141 | 217 => 142 | 225 => 143 | 224 => 144 | 267 => 145 | 266 => 146 | 314 => 147 | n => n, fun | 9 => 9 | 3 => 3 | 4 => 4 | 5 => 5 | 46 => 214 | 146 => 244 | 51 => 243 | n => n, fun | 1 => 3 | n => n⟩
theorem Tryz.lays219 : Go.Proofs.Lays.n219 Tryz.prog Tryz.lays219_ren := {
  mixed := by kernel_rfl
  f217 := Tryz.func142.trans (congrArg some (by kernel_rfl))
  f219 := Tryz.func141.trans (congrArg some (by kernel_rfl))
  f224 := Tryz.func144.trans (congrArg some (by kernel_rfl))
  f225 := Tryz.func143.trans (congrArg some (by kernel_rfl))
  f266 := Tryz.func146.trans (congrArg some (by kernel_rfl))
  f267 := Tryz.func145.trans (congrArg some (by kernel_rfl))
  f314 := Tryz.func147.trans (congrArg some (by kernel_rfl))
  t3 := Tryz.underlying3
  a3 := Tryz.isAgg3
  z3 := Tryz.sizeOf3
  v3 := Tryz.zeroValue3
  t4 := Tryz.underlying4
  a4 := Tryz.isAgg4
  z4 := Tryz.sizeOf4
  v4 := Tryz.zeroValue4
  t5 := Tryz.underlying5
  a5 := Tryz.isAgg5
  z5 := Tryz.sizeOf5
  v5 := Tryz.zeroValue5
  t9 := Tryz.underlying9
  a9 := Tryz.isAgg9
  z9 := Tryz.sizeOf9
  v9 := Tryz.zeroValue9
  t46 := Tryz.underlying214
  a46 := Tryz.isAgg214
  z46 := Tryz.sizeOf214
  v46 := Tryz.zeroValue214
  t51 := Tryz.underlying243
  a51 := Tryz.isAgg243
  z51 := Tryz.sizeOf243
  v51 := Tryz.zeroValue243
  t146 := Tryz.underlying244
  a146 := Tryz.isAgg244
  z146 := Tryz.sizeOf244
  v146 := Tryz.zeroValue244
  g1 := by kernel_rfl }
open Go.RowKit Go.Lib in
theorem Tryz.stringslite_Index_one (s : ByteArray) (c : UInt8) (w : World) :
    Calls Tryz.prog 141 #[.string s, .string ⟨#[c]⟩] w fun e w' => e = .returned (.int .i64 (Lib.indexByte s.data.toList c)) ∧ w' = w := Any.stringslite_Index_one Tryz.lays219 s c w
def Tryz.lays144_ren : Go.Shelf.Ren := ⟨fun | 144 => 136 | 143 => 139 | 219 => 141 | 217 => 142 | 225 => 143 | 224 => 144 | 267 => 145 | 266 => 146 | 314 => 147 | n => n, fun | 9 => 9 | 4 => 4 | 3 => 3 | 5 => 5 | 46 => 214 | 146 => 244 | 51 => 243 | n => n, fun | 1 => 3 | n => n⟩
theorem Tryz.lays144 : Go.Proofs.Lays.n144 Tryz.prog Tryz.lays144_ren := {
  mixed := by kernel_rfl
  f143 := Tryz.func139.trans (congrArg some (by kernel_rfl))
  f144 := Tryz.func136.trans (congrArg some (by kernel_rfl))
  f217 := Tryz.func142.trans (congrArg some (by kernel_rfl))
  f219 := Tryz.func141.trans (congrArg some (by kernel_rfl))
  f224 := Tryz.func144.trans (congrArg some (by kernel_rfl))
  f225 := Tryz.func143.trans (congrArg some (by kernel_rfl))
  f266 := Tryz.func146.trans (congrArg some (by kernel_rfl))
  f267 := Tryz.func145.trans (congrArg some (by kernel_rfl))
  f314 := Tryz.func147.trans (congrArg some (by kernel_rfl))
  t3 := Tryz.underlying3
  a3 := Tryz.isAgg3
  z3 := Tryz.sizeOf3
  v3 := Tryz.zeroValue3
  t4 := Tryz.underlying4
  a4 := Tryz.isAgg4
  z4 := Tryz.sizeOf4
  v4 := Tryz.zeroValue4
  t5 := Tryz.underlying5
  a5 := Tryz.isAgg5
  z5 := Tryz.sizeOf5
  v5 := Tryz.zeroValue5
  t9 := Tryz.underlying9
  a9 := Tryz.isAgg9
  z9 := Tryz.sizeOf9
  v9 := Tryz.zeroValue9
  t46 := Tryz.underlying214
  a46 := Tryz.isAgg214
  z46 := Tryz.sizeOf214
  v46 := Tryz.zeroValue214
  t51 := Tryz.underlying243
  a51 := Tryz.isAgg243
  z51 := Tryz.sizeOf243
  v51 := Tryz.zeroValue243
  t146 := Tryz.underlying244
  a146 := Tryz.isAgg244
  z146 := Tryz.sizeOf244
  v146 := Tryz.zeroValue244
  g1 := by kernel_rfl }
open Go.RowKit Go.Lib in
theorem Tryz.strings_Contains_one (s : ByteArray) (c : UInt8) (w : World) :
    Calls Tryz.prog 136 #[.string s, .string ⟨#[c]⟩] w fun e w' => e = .returned (.bool (decide (0 ≤ Lib.indexByte s.data.toList c))) ∧ w' = w := Any.strings_Contains_one Tryz.lays144 s c w
def Tryz.lays206_ren : Go.Shelf.Ren := ⟨fun | 206 => 138 | n => n, fun | 9 => 9 | 4 => 4 | 3 => 3 | n => n, fun | n => n⟩
theorem Tryz.lays206 : Go.Proofs.Lays.n206 Tryz.prog Tryz.lays206_ren := {
  mixed := by kernel_rfl
  f206 := Tryz.func138.trans (congrArg some (by kernel_rfl))
  t3 := Tryz.underlying3
  a3 := Tryz.isAgg3
  z3 := Tryz.sizeOf3
  v3 := Tryz.zeroValue3
  t4 := Tryz.underlying4
  a4 := Tryz.isAgg4
  z4 := Tryz.sizeOf4
  v4 := Tryz.zeroValue4
  t9 := Tryz.underlying9
  a9 := Tryz.isAgg9
  z9 := Tryz.sizeOf9
  v9 := Tryz.zeroValue9 }
open Go.RowKit Go.Lib in
theorem Tryz.stringslite_HasPrefix (s p : ByteArray) (w : World) :
    Calls Tryz.prog 138 #[.string s, .string p] w fun e w' => e = .returned (.bool (Lib.hasPrefix s.data.toList p.data.toList)) ∧ w' = w := Any.stringslite_HasPrefix Tryz.lays206 s p w
end Go.Proofs
namespace Go.Proofs.YtnicolaphmffkaaGreatDoor
open Go.RowKit
set_option linter.unusedVariables false
set_option linter.unusedSimpArgs false

set_option maxRecDepth 100000 in
set_option maxHeartbeats 1000000 in
theorem isDigit_any (c : UInt8) (w : World) : Calls Tryz.prog 122 #[.int .u8 (c.toNat : Int)] w fun e w' => e = .returned (.bool (isD c)) ∧ w' = w := by
  by_cases h1 : (48 : Int) ≤ (c.toNat : Int)
  · by_cases h2 : (c.toNat : Int) ≤ 57
    · have e : isD c = true := by rw [isD_iff]; omega
      rw [e]; clear e; go_enter Tryz.func122, Tryz.ntmps122
      go_wp2
      go_ret
      exact ⟨rfl, rfl⟩
    · have e : isD c = false := by rw [← Bool.not_eq_true, isD_iff]; omega
      rw [e]; clear e; go_enter Tryz.func122, Tryz.ntmps122
      go_wp2
      go_ret
      exact ⟨rfl, rfl⟩
  · have e : isD c = false := by rw [← Bool.not_eq_true, isD_iff]; omega
    rw [e]; clear e; go_enter Tryz.func122, Tryz.ntmps122
    go_wp2
    go_ret
    exact ⟨rfl, rfl⟩

set_option maxRecDepth 100000 in
set_option maxHeartbeats 1000000 in
theorem digit_any (c : UInt8) (w : World) : Calls Tryz.prog 125 #[.int .u8 (c.toNat : Int)] w fun e w' => e = .returned (.bool (isD c)) ∧ w' = w := by
  by_cases h1 : (48 : Int) ≤ (c.toNat : Int)
  · by_cases h2 : (c.toNat : Int) ≤ 57
    · have e : isD c = true := by rw [isD_iff]; omega
      rw [e]; clear e; go_enter Tryz.func125, Tryz.ntmps125
      go_wp2
      go_ret
      exact ⟨rfl, rfl⟩
    · have e : isD c = false := by rw [← Bool.not_eq_true, isD_iff]; omega
      rw [e]; clear e; go_enter Tryz.func125, Tryz.ntmps125
      go_wp2
      go_ret
      exact ⟨rfl, rfl⟩
  · have e : isD c = false := by rw [← Bool.not_eq_true, isD_iff]; omega
    rw [e]; clear e; go_enter Tryz.func125, Tryz.ntmps125
    go_wp2
    go_ret
    exact ⟨rfl, rfl⟩

theorem isL_iff (c : UInt8) : isL c = true ↔ 97 ≤ c.toNat ∧ c.toNat ≤ 122 ∨ 65 ≤ c.toNat ∧ c.toNat ≤ 90 := by simp [isL]
set_option maxRecDepth 100000 in
set_option maxHeartbeats 1000000 in
theorem isLetter_any (c : UInt8) (w : World) : Calls Tryz.prog 119 #[.int .u8 (c.toNat : Int)] w fun e w' => e = .returned (.bool (isL c)) ∧ w' = w := by
  have e := isL_iff c
  generalize isL c = B at e
  have e' : Hid _ := e
  clear e
  by_cases h1 : (97 : Int) ≤ (c.toNat : Int) <;> by_cases h2 : (c.toNat : Int) ≤ 122 <;> by_cases h3 : (65 : Int) ≤ (c.toNat : Int) <;> by_cases h4 : (c.toNat : Int) ≤ 90
  all_goals
    go_enter Tryz.func119, Tryz.ntmps119
    go_wp2
    go_ret
    exact ⟨ret_bool (by
      have e : B = true ↔ 97 ≤ c.toNat ∧ c.toNat ≤ 122 ∨ 65 ≤ c.toNat ∧ c.toNat ≤ 90 := e'.out
      first | (symm; rw [e]; omega) | (symm; rw [← Bool.not_eq_true, e]; omega)), rfl⟩
set_option maxRecDepth 100000 in
set_option maxHeartbeats 1000000 in
theorem letter_any (c : UInt8) (w : World) : Calls Tryz.prog 99 #[.int .u8 (c.toNat : Int)] w fun e w' => e = .returned (.bool (isL c)) ∧ w' = w := by
  have e := isL_iff c
  generalize isL c = B at e
  have e' : Hid _ := e
  clear e
  by_cases h1 : (97 : Int) ≤ (c.toNat : Int) <;> by_cases h2 : (c.toNat : Int) ≤ 122 <;> by_cases h3 : (65 : Int) ≤ (c.toNat : Int) <;> by_cases h4 : (c.toNat : Int) ≤ 90
  all_goals
    go_enter Tryz.func99, Tryz.ntmps99
    go_wp2
    go_ret
    exact ⟨ret_bool (by
      have e : B = true ↔ 97 ≤ c.toNat ∧ c.toNat ≤ 122 ∨ 65 ≤ c.toNat ∧ c.toNat ≤ 90 := e'.out
      first | (symm; rw [e]; omega) | (symm; rw [← Bool.not_eq_true, e]; omega)), rfl⟩

theorem isR_iff (c : UInt8) : isR c = (isL c || isD c || decide (c.toNat = 95)) := rfl
set_option maxRecDepth 100000 in
set_option maxHeartbeats 1000000 in
theorem inRun_of (c : UInt8) (L D : Bool) (w : World) (hL : ∀ w, Calls Tryz.prog 99 #[.int .u8 (c.toNat : Int)] w fun e w' => e = .returned (.bool L) ∧ w' = w) (hD : ∀ w, Calls Tryz.prog 125 #[.int .u8 (c.toNat : Int)] w fun e w' => e = .returned (.bool D) ∧ w' = w) :
    Calls Tryz.prog 115 #[.int .u8 (c.toNat : Int)] w fun e w' => e = .returned (.bool (L || D || decide ((c.toNat : Int) = 95))) ∧ w' = w := by
  cases L
  · cases D
    · go_enter Tryz.func115, Tryz.ntmps115
      go_wp2_with (first
        | (go_at_call 99; with_reducible refine (hL _).mono ?_; rintro e w' ⟨rfl, hwe⟩; subst hwe)
        | (go_at_call 125; with_reducible refine (hD _).mono ?_; rintro e w' ⟨rfl, hwe⟩; subst hwe))
      go_ret
      exact ⟨rfl, rfl⟩
    · go_enter Tryz.func115, Tryz.ntmps115
      go_wp2_with (first
        | (go_at_call 99; with_reducible refine (hL _).mono ?_; rintro e w' ⟨rfl, hwe⟩; subst hwe)
        | (go_at_call 125; with_reducible refine (hD _).mono ?_; rintro e w' ⟨rfl, hwe⟩; subst hwe))
      go_ret
      exact ⟨rfl, rfl⟩
  · go_enter Tryz.func115, Tryz.ntmps115
    go_wp2_with (first
      | (go_at_call 99; with_reducible refine (hL _).mono ?_; rintro e w' ⟨rfl, hwe⟩; subst hwe)
      | (go_at_call 125; with_reducible refine (hD _).mono ?_; rintro e w' ⟨rfl, hwe⟩; subst hwe))
    go_ret
    exact ⟨rfl, rfl⟩
theorem inRun_any (c : UInt8) (w : World) : Calls Tryz.prog 115 #[.int .u8 (c.toNat : Int)] w fun e w' => e = .returned (.bool (isR c)) ∧ w' = w := by
  have h := inRun_of c (isL c) (isD c) w (fun w => letter_any c w) (fun w => digit_any c w)
  have e : (isL c || isD c || decide ((c.toNat : Int) = 95)) = isR c := by
    rw [isR_iff]
    have e2 : decide ((c.toNat : Int) = 95) = decide (c.toNat = 95) := by simp only [decide_eq_decide]; omega
    rw [e2]
  rw [e] at h
  exact h
end Go.Proofs.YtnicolaphmffkaaGreatDoor
namespace Go.Proofs.YtnicolaphmffkaaGreatDoor
open Go.RowKit
set_option linter.unusedVariables false
set_option linter.unusedSimpArgs false

set_option maxRecDepth 100000 in
set_option maxHeartbeats 1000000 in
theorem digitValue_any (c : UInt8) (w : World) : Calls Tryz.prog 135 #[.int .u8 (c.toNat : Int)] w fun e w' => e = .returned (.int .i64 (dv c : Nat)) ∧ w' = w := by
  have hc := c.toNat_lt
  have hI := fun w => isDigit_any c w
  have hdv : Hid (dv c = if 48 ≤ c.toNat ∧ c.toNat ≤ 57 then c.toNat - 48 else if 97 ≤ c.toNat ∧ c.toNat ≤ 102 then c.toNat - 87 else if 65 ≤ c.toNat ∧ c.toNat ≤ 70 then c.toNat - 55 else 16) := rfl
  generalize dv c = D at hdv
  by_cases h0 : isD c = true
  · have h0' := (isD_iff c).1 h0
    rw [h0] at hI
    have hD : Hid ((c.toNat : Int) - 48 = (D : Int)) := by
      show _ = _
      rw [hdv.out, if_pos h0']; omega
    go_enter Tryz.func135, Tryz.ntmps135
    go_wp2_with (go_at_call 122; with_reducible refine (hI _).mono ?_; rintro e w' ⟨rfl, hwe⟩; subst hwe)
    go_ret
    exact ⟨ret_int hD.out, rfl⟩
  · have hf : isD c = false := by simpa using h0
    have h0' : ¬ (48 ≤ c.toNat ∧ c.toNat ≤ 57) := fun h => h0 ((isD_iff c).2 h)
    rw [hf] at hI
    clear h0 hf
    by_cases h1 : (97 : Int) ≤ (c.toNat : Int) ∧ (c.toNat : Int) ≤ 102
    · obtain ⟨h1a, h1b⟩ := h1
      have hD : Hid ((c.toNat : Int) - 97 + 10 = (D : Int)) := by
        show _ = _
        rw [hdv.out, if_neg h0', if_pos (by omega)]; omega
      clear h0'
      go_enter Tryz.func135, Tryz.ntmps135
      go_wp2_with (go_at_call 122; with_reducible refine (hI _).mono ?_; rintro e w' ⟨rfl, hwe⟩; subst hwe)
      go_ret
      exact ⟨ret_int hD.out, rfl⟩
    · have h1' : (c.toNat : Int) < 97 ∨ 102 < (c.toNat : Int) := by omega
      by_cases h2 : (65 : Int) ≤ (c.toNat : Int) ∧ (c.toNat : Int) ≤ 70
      · obtain ⟨h2a, h2b⟩ := h2
        have hD : Hid ((c.toNat : Int) - 65 + 10 = (D : Int)) := by
          show _ = _
          rw [hdv.out, if_neg h0', if_neg (by omega), if_pos (by omega)]; omega
        clear h0' h1
        have h1a : (c.toNat : Int) < 97 := by omega
        clear h1'
        go_enter Tryz.func135, Tryz.ntmps135
        go_wp2_with (go_at_call 122; with_reducible refine (hI _).mono ?_; rintro e w' ⟨rfl, hwe⟩; subst hwe)
        go_ret
        exact ⟨ret_int hD.out, rfl⟩
      · have hD : Hid (16 = (D : Int)) := by
          show _ = _
          rw [hdv.out, if_neg h0', if_neg (by omega), if_neg (by omega)]; omega
        have h2' : (c.toNat : Int) < 65 ∨ 70 < (c.toNat : Int) := by omega
        clear h0' h1 h2
        rcases h1' with h1' | h1' <;> rcases h2' with h2' | h2'
        all_goals
          first
            | (exfalso; omega)
            | (go_enter Tryz.func135, Tryz.ntmps135
               go_wp2_with (go_at_call 122; with_reducible refine (hI _).mono ?_; rintro e w' ⟨rfl, hwe⟩; subst hwe)
               all_goals
                 go_ret
                 exact ⟨ret_int hD.out, rfl⟩)
end Go.Proofs.YtnicolaphmffkaaGreatDoor
namespace Go.Proofs.YtnicolaphmffkaaGreatDoor
open Go.RowKit
set_option linter.unusedVariables false
set_option linter.unusedSimpArgs false

/-- What the reference's value tells of a byte. -/
def rv (b : Nat) (c : UInt8) : Int := if dv c < b then (dv c : Int) else -1

set_option maxRecDepth 100000 in
set_option maxHeartbeats 1000000 in
theorem value10 (c : UInt8) (w : World) : Calls Tryz.prog 126 #[.int .u8 (c.toNat : Int), .int .i64 10] w fun e w' => e = .returned (.int .i64 (rv 10 c)) ∧ w' = w := by
  have hc := c.toNat_lt
  have hI := fun w => digit_any c w
  by_cases h0 : isD c = true
  · have h0' := (isD_iff c).1 h0
    have hD : Hid ((c.toNat : Int) - 48 = rv 10 c) := by
      show _ = _
      have := (dv_lt10 c).2 h0
      unfold rv
      rw [if_pos this, dv_digit h0]; omega
    rw [h0] at hI
    go_enter Tryz.func126, Tryz.ntmps126
    go_wp2_with (go_at_call 125; with_reducible refine (hI _).mono ?_; rintro e w' ⟨rfl, hwe⟩; subst hwe)
    go_ret
    exact ⟨ret_int hD.out, rfl⟩
  · have hf : isD c = false := by simpa using h0
    have hD : Hid (-1 = rv 10 c) := by
      show _ = _
      unfold rv
      rw [if_neg (fun h => h0 ((dv_lt10 c).1 h))]
    rw [hf] at hI
    clear h0 hf
    go_enter Tryz.func126, Tryz.ntmps126
    go_wp2_with (go_at_call 125; with_reducible refine (hI _).mono ?_; rintro e w' ⟨rfl, hwe⟩; subst hwe)
    go_ret
    exact ⟨ret_int hD.out, rfl⟩

set_option maxRecDepth 100000 in
set_option maxHeartbeats 1000000 in
theorem value16 (c : UInt8) (w : World) : Calls Tryz.prog 126 #[.int .u8 (c.toNat : Int), .int .i64 16] w fun e w' => e = .returned (.int .i64 (rv 16 c)) ∧ w' = w := by
  have hc := c.toNat_lt
  have hI := fun w => digit_any c w
  have hr : Hid (rv 16 c = if 48 ≤ c.toNat ∧ c.toNat ≤ 57 then (c.toNat : Int) - 48 else if 97 ≤ c.toNat ∧ c.toNat ≤ 102 then (c.toNat : Int) - 97 + 10 else if 65 ≤ c.toNat ∧ c.toNat ≤ 70 then (c.toNat : Int) - 65 + 10 else -1) := by
    show _ = _
    unfold rv dv
    split
    · rw [if_pos (by omega)]; omega
    · split
      · rw [if_pos (by omega)]; omega
      · split
        · rw [if_pos (by omega)]; omega
        · rw [if_neg (by omega)]
  generalize rv 16 c = R at hr
  by_cases h0 : isD c = true
  · have h0' := (isD_iff c).1 h0
    rw [h0] at hI
    have hD : Hid ((c.toNat : Int) - 48 = R) := by
      show _ = _
      rw [hr.out, if_pos h0']
    go_enter Tryz.func126, Tryz.ntmps126
    go_wp2_with (go_at_call 125; with_reducible refine (hI _).mono ?_; rintro e w' ⟨rfl, hwe⟩; subst hwe)
    go_ret
    exact ⟨ret_int hD.out, rfl⟩
  · have hf : isD c = false := by simpa using h0
    have h0' : ¬ (48 ≤ c.toNat ∧ c.toNat ≤ 57) := fun h => h0 ((isD_iff c).2 h)
    rw [hf] at hI
    clear h0 hf
    by_cases h1 : (97 : Int) ≤ (c.toNat : Int) ∧ (c.toNat : Int) ≤ 102
    · obtain ⟨h1a, h1b⟩ := h1
      have hD : Hid ((c.toNat : Int) - 97 + 10 = R) := by
        show _ = _
        rw [hr.out, if_neg h0', if_pos (by omega)]
      clear h0'
      go_enter Tryz.func126, Tryz.ntmps126
      go_wp2_with (go_at_call 125; with_reducible refine (hI _).mono ?_; rintro e w' ⟨rfl, hwe⟩; subst hwe)
      go_ret
      exact ⟨ret_int hD.out, rfl⟩
    · have h1' : (c.toNat : Int) < 97 ∨ 102 < (c.toNat : Int) := by omega
      by_cases h2 : (65 : Int) ≤ (c.toNat : Int) ∧ (c.toNat : Int) ≤ 70
      · obtain ⟨h2a, h2b⟩ := h2
        have hD : Hid ((c.toNat : Int) - 65 + 10 = R) := by
          show _ = _
          rw [hr.out, if_neg h0', if_neg (by omega), if_pos (by omega)]
        clear h0' h1
        have h1a : (c.toNat : Int) < 97 := by omega
        clear h1'
        go_enter Tryz.func126, Tryz.ntmps126
        go_wp2_with (go_at_call 125; with_reducible refine (hI _).mono ?_; rintro e w' ⟨rfl, hwe⟩; subst hwe)
        go_ret
        exact ⟨ret_int hD.out, rfl⟩
      · have hD : Hid (-1 = R) := by
          show _ = _
          rw [hr.out, if_neg h0', if_neg (by omega), if_neg (by omega)]
        have h2' : (c.toNat : Int) < 65 ∨ 70 < (c.toNat : Int) := by omega
        clear h0' h1 h2
        rcases h1' with h1' | h1' <;> rcases h2' with h2' | h2'
        all_goals
          first
            | (exfalso; omega)
            | (go_enter Tryz.func126, Tryz.ntmps126
               go_wp2_with (go_at_call 125; with_reducible refine (hI _).mono ?_; rintro e w' ⟨rfl, hwe⟩; subst hwe)
               all_goals
                 go_ret
                 exact ⟨ret_int hD.out, rfl⟩)

theorem drop_get (s : ByteArray) (k : Nat) (h : k < s.size) : s.data.toList.drop k = s[k] :: s.data.toList.drop (k + 1) := by
  rw [List.drop_eq_getElem_cons (by simpa using h)]; rfl
theorem drop_end (s : ByteArray) (k : Nat) (h : s.size ≤ k) : s.data.toList.drop k = [] := List.drop_eq_nil_of_le (by simpa using h)

end Go.Proofs.YtnicolaphmffkaaGreatDoor
namespace Go.Proofs.YtnicolaphmffkaaGreatDoor
open Go.RowKit
set_option linter.unusedVariables false
set_option linter.unusedSimpArgs false

/-- What a reader of digits tells: beside a true the value, or the bound M where it is greater. -/
def DigRes (O : Bool) (V M v : Nat) : Prop := (O = true → v = min V M) ∧ v ≤ M
theorem DigRes.no {O : Bool} {V M v : Nat} (h : O = false) (hv : v ≤ M) : DigRes O V M v := ⟨fun h' => (by rw [h] at h'; cases h'), hv⟩
theorem DigRes.yes {O : Bool} {V M v : Nat} (h : v = min V M) (hv : v ≤ M) : DigRes O V M v := ⟨fun _ => h, hv⟩
theorem ret_vb {x : Value} {a b : Bool} (h : a = b) : Ending.returned (.tuple #[x, .bool a]) = .returned (.tuple #[x, .bool b]) := by rw [h]

set_option maxRecDepth 100000 in
set_option maxHeartbeats 2000000 in
theorem digitsValue10 (s : ByteArray) (w : World) (hs : s.size < 4611686018427387904) :
    Calls Tryz.prog 132 #[.string s, .int .i64 10] w fun e w' => (∃ v : Nat, e = .returned (.tuple #[.int .i64 v, .bool (okD 10 true true s.data.toList)]) ∧ DigRes (okD 10 true true s.data.toList) (valD 10 0 s.data.toList) 2147483648 v) ∧ w' = w := by
  have hO : Hid (okD 10 true (decide ((95 : UInt8).toNat = 95)) (s.data.toList.drop 0) = okD 10 true true s.data.toList) := rfl
  have hV : Hid (valD 10 0 (s.data.toList.drop 0) = valD 10 0 s.data.toList) := rfl
  generalize okD 10 true true s.data.toList = O at hO ⊢
  generalize valD 10 0 s.data.toList = V at hV ⊢
  go_enter Tryz.func132, Tryz.ntmps132
  go_wp2
  go_loop [6, 7, 13] (fun tv tp ti => ∃ (k a m : Nat) (c : UInt8), k ≤ s.size ∧ ti = .int .i64 k ∧ tp = .int .u8 (c.toNat : Int) ∧ tv = .int .i64 (m : Int) ∧ m = min a 2147483648 ∧ okD 10 true (decide (c.toNat = 95)) (s.data.toList.drop k) = O ∧ valD 10 a (s.data.toList.drop k) = V) (fun _ _ ti => s.size - (intOf ti).toNat)
  case atStart => exact ⟨0, 0, 0, 95, Nat.zero_le _, rfl, rfl, rfl, by simp, hO.out, hV.out⟩
  case round =>
    obtain ⟨k, a, m, c, hk, rfl, rfl, rfl, hm, ho, hv⟩ := hrel
    have HM : Hid (m = min a 2147483648) := hm
    have hm2 : m ≤ 2147483648 := by omega
    clear hm
    by_cases hlt : k < s.size
    · rw [drop_get s k hlt, okD] at ho
      rw [drop_get s k hlt, valD] at hv
      have hI := fun w => digitValue_any s[k] w
      have hdl := dv_le s[k]
      by_cases hx : s[k].toNat = 95
      · rw [if_pos hx] at ho hv
        have hx' : (s[k].toNat : Int) = 95 := by omega
        by_cases hp : c.toNat = 95
        · have hp' : (c.toNat : Int) = 95 := by omega
          have hOf : O = false := by rw [← ho]; simp [hp]
          have HOf : Hid (O = false) := hOf
          clear hOf
          clear ho hv hI hp hx
          go_wp2
          go_ret2
          exact ⟨⟨0, ret_vb HOf.out.symm, DigRes.no HOf.out (by omega)⟩, rfl⟩
        · have hp' : ¬ (c.toNat : Int) = 95 := by omega
          have HO : Hid (okD 10 true (decide (s[k].toNat = 95)) (s.data.toList.drop (k + 1)) = O) := by
            show _ = _
            rw [← ho]; simp [hp, hx]
          have HV : Hid (valD 10 a (s.data.toList.drop (k + 1)) = V) := hv
          clear ho hv hI hp hx
          go_wp2
          go_round
          case rel => exact ⟨k + 1, a, m, s[k], by omega, by go_num, by rw [hx'], rfl, HM.out, HO.out, HV.out⟩
          case measure => simp [intOf]; omega
      · rw [if_neg hx] at ho hv
        have hx' : ¬ (s[k].toNat : Int) = 95 := by omega
        by_cases hd : dv s[k] < 10
        · have HO : Hid (okD 10 true (decide (s[k].toNat = 95)) (s.data.toList.drop (k + 1)) = O) := by
            show _ = _
            rw [if_pos hd] at ho
            rw [← ho]; simp [hx]
          have HV : Hid (valD 10 (a * 10 + dv s[k]) (s.data.toList.drop (k + 1)) = V) := hv
          have hd' : (dv s[k] : Int) < 10 := by omega
          clear ho hv hx
          generalize dv s[k] = d at *
          by_cases hbig : (m : Int) * 10 + (d : Int) ≤ 2147483648
          · go_wp2_with (go_at_call 135; with_reducible refine (hI _).mono ?_; rintro e w' ⟨rfl, hwe⟩; subst hwe)
            go_round
            case rel => exact ⟨k + 1, a * 10 + d, m * 10 + d, s[k], by omega, by go_num, rfl, by go_num, by have := HM.out; omega, HO.out, HV.out⟩
            case measure => simp [intOf]; omega
          · go_wp2_with (go_at_call 135; with_reducible refine (hI _).mono ?_; rintro e w' ⟨rfl, hwe⟩; subst hwe)
            go_round
            case rel => exact ⟨k + 1, a * 10 + d, 2147483648, s[k], by omega, by go_num, rfl, by go_num, by have := HM.out; omega, HO.out, HV.out⟩
            case measure => simp [intOf]; omega
        · have hOf : O = false := by rw [← ho, if_neg hd]
          have HOf : Hid (O = false) := hOf
          clear hOf
          have hd' : (10 : Int) ≤ (dv s[k] : Int) := by omega
          clear ho hv hx hd
          go_wp2_with (go_at_call 135; with_reducible refine (hI _).mono ?_; rintro e w' ⟨rfl, hwe⟩; subst hwe)
          go_ret2
          exact ⟨⟨0, ret_vb HOf.out.symm, DigRes.no HOf.out (by omega)⟩, rfl⟩
    · rw [drop_end s k (by omega), okD] at ho
      rw [drop_end s k (by omega), valD] at hv
      subst hv
      by_cases hp : c.toNat = 95
      · have hp' : (c.toNat : Int) = 95 := by omega
        have hOf : O = false := by rw [← ho]; simp [hp]
        have HOf : Hid (O = false) := hOf
        clear hOf
        clear ho hp
        go_wp2
        go_ret2
        exact ⟨⟨m, ret_vb (by rw [HOf.out]), DigRes.no HOf.out (by omega)⟩, rfl⟩
      · have hp' : ¬ (c.toNat : Int) = 95 := by omega
        have hOf : O = true := by rw [← ho]; simp [hp]
        have HOf : Hid (O = true) := hOf
        clear hOf
        clear ho hp
        go_wp2
        go_ret2
        exact ⟨⟨m, ret_vb (by rw [HOf.out]; simp [hp']), DigRes.yes HM.out (by omega)⟩, rfl⟩

set_option maxRecDepth 100000 in
set_option maxHeartbeats 2000000 in
theorem digitsValue16 (s : ByteArray) (w : World) (hs : s.size < 4611686018427387904) :
    Calls Tryz.prog 132 #[.string s, .int .i64 16] w fun e w' => (∃ v : Nat, e = .returned (.tuple #[.int .i64 v, .bool (okD 16 true true s.data.toList)]) ∧ DigRes (okD 16 true true s.data.toList) (valD 16 0 s.data.toList) 2147483648 v) ∧ w' = w := by
  have hO : Hid (okD 16 true (decide ((95 : UInt8).toNat = 95)) (s.data.toList.drop 0) = okD 16 true true s.data.toList) := rfl
  have hV : Hid (valD 16 0 (s.data.toList.drop 0) = valD 16 0 s.data.toList) := rfl
  generalize okD 16 true true s.data.toList = O at hO ⊢
  generalize valD 16 0 s.data.toList = V at hV ⊢
  go_enter Tryz.func132, Tryz.ntmps132
  go_wp2
  go_loop [6, 7, 13] (fun tv tp ti => ∃ (k a m : Nat) (c : UInt8), k ≤ s.size ∧ ti = .int .i64 k ∧ tp = .int .u8 (c.toNat : Int) ∧ tv = .int .i64 (m : Int) ∧ m = min a 2147483648 ∧ okD 16 true (decide (c.toNat = 95)) (s.data.toList.drop k) = O ∧ valD 16 a (s.data.toList.drop k) = V) (fun _ _ ti => s.size - (intOf ti).toNat)
  case atStart => exact ⟨0, 0, 0, 95, Nat.zero_le _, rfl, rfl, rfl, by simp, hO.out, hV.out⟩
  case round =>
    obtain ⟨k, a, m, c, hk, rfl, rfl, rfl, hm, ho, hv⟩ := hrel
    have HM : Hid (m = min a 2147483648) := hm
    have hm2 : m ≤ 2147483648 := by omega
    clear hm
    by_cases hlt : k < s.size
    · rw [drop_get s k hlt, okD] at ho
      rw [drop_get s k hlt, valD] at hv
      have hI := fun w => digitValue_any s[k] w
      have hdl := dv_le s[k]
      by_cases hx : s[k].toNat = 95
      · rw [if_pos hx] at ho hv
        have hx' : (s[k].toNat : Int) = 95 := by omega
        by_cases hp : c.toNat = 95
        · have hp' : (c.toNat : Int) = 95 := by omega
          have hOf : O = false := by rw [← ho]; simp [hp]
          have HOf : Hid (O = false) := hOf
          clear hOf
          clear ho hv hI hp hx
          go_wp2
          go_ret2
          exact ⟨⟨0, ret_vb HOf.out.symm, DigRes.no HOf.out (by omega)⟩, rfl⟩
        · have hp' : ¬ (c.toNat : Int) = 95 := by omega
          have HO : Hid (okD 16 true (decide (s[k].toNat = 95)) (s.data.toList.drop (k + 1)) = O) := by
            show _ = _
            rw [← ho]; simp [hp, hx]
          have HV : Hid (valD 16 a (s.data.toList.drop (k + 1)) = V) := hv
          clear ho hv hI hp hx
          go_wp2
          go_round
          case rel => exact ⟨k + 1, a, m, s[k], by omega, by go_num, by rw [hx'], rfl, HM.out, HO.out, HV.out⟩
          case measure => simp [intOf]; omega
      · rw [if_neg hx] at ho hv
        have hx' : ¬ (s[k].toNat : Int) = 95 := by omega
        by_cases hd : dv s[k] < 16
        · have HO : Hid (okD 16 true (decide (s[k].toNat = 95)) (s.data.toList.drop (k + 1)) = O) := by
            show _ = _
            rw [if_pos hd] at ho
            rw [← ho]; simp [hx]
          have HV : Hid (valD 16 (a * 16 + dv s[k]) (s.data.toList.drop (k + 1)) = V) := hv
          have hd' : (dv s[k] : Int) < 16 := by omega
          clear ho hv hx
          generalize dv s[k] = d at *
          by_cases hbig : (m : Int) * 16 + (d : Int) ≤ 2147483648
          · go_wp2_with (go_at_call 135; with_reducible refine (hI _).mono ?_; rintro e w' ⟨rfl, hwe⟩; subst hwe)
            go_round
            case rel => exact ⟨k + 1, a * 16 + d, m * 16 + d, s[k], by omega, by go_num, rfl, by go_num, by have := HM.out; omega, HO.out, HV.out⟩
            case measure => simp [intOf]; omega
          · go_wp2_with (go_at_call 135; with_reducible refine (hI _).mono ?_; rintro e w' ⟨rfl, hwe⟩; subst hwe)
            go_round
            case rel => exact ⟨k + 1, a * 16 + d, 2147483648, s[k], by omega, by go_num, rfl, by go_num, by have := HM.out; omega, HO.out, HV.out⟩
            case measure => simp [intOf]; omega
        · have hOf : O = false := by rw [← ho, if_neg hd]
          have HOf : Hid (O = false) := hOf
          clear hOf
          have hd' : (16 : Int) ≤ (dv s[k] : Int) := by omega
          clear ho hv hx hd
          go_wp2_with (go_at_call 135; with_reducible refine (hI _).mono ?_; rintro e w' ⟨rfl, hwe⟩; subst hwe)
          go_ret2
          exact ⟨⟨0, ret_vb HOf.out.symm, DigRes.no HOf.out (by omega)⟩, rfl⟩
    · rw [drop_end s k (by omega), okD] at ho
      rw [drop_end s k (by omega), valD] at hv
      subst hv
      by_cases hp : c.toNat = 95
      · have hp' : (c.toNat : Int) = 95 := by omega
        have hOf : O = false := by rw [← ho]; simp [hp]
        have HOf : Hid (O = false) := hOf
        clear hOf
        clear ho hp
        go_wp2
        go_ret2
        exact ⟨⟨m, ret_vb (by rw [HOf.out]), DigRes.no HOf.out (by omega)⟩, rfl⟩
      · have hp' : ¬ (c.toNat : Int) = 95 := by omega
        have hOf : O = true := by rw [← ho]; simp [hp]
        have HOf : Hid (O = true) := hOf
        clear hOf
        clear ho hp
        go_wp2
        go_ret2
        exact ⟨⟨m, ret_vb (by rw [HOf.out]; simp [hp']), DigRes.yes HM.out (by omega)⟩, rfl⟩
end Go.Proofs.YtnicolaphmffkaaGreatDoor
namespace Go.Proofs.YtnicolaphmffkaaGreatDoor
open Go.RowKit
set_option linter.unusedVariables false
set_option linter.unusedSimpArgs false

set_option maxRecDepth 100000 in
set_option maxHeartbeats 4000000 in
theorem digits10 (s : ByteArray) (g : Bool) (w : World) (hs : s.size < 4611686018427387904) :
    Calls Tryz.prog 116 #[.string s, .int .i64 10, .bool g] w fun e w' => (∃ v : Nat, e = .returned (.tuple #[.int .i64 v, .bool (okD 10 g true s.data.toList)]) ∧ DigRes (okD 10 g true s.data.toList) (valD 10 0 s.data.toList) 1099511627776 v) ∧ w' = w := by
  have hO : Hid (okD 10 g true (s.data.toList.drop 0) = okD 10 g true s.data.toList) := rfl
  have hV : Hid (valD 10 0 (s.data.toList.drop 0) = valD 10 0 s.data.toList) := rfl
  generalize okD 10 g true s.data.toList = O at hO ⊢
  generalize valD 10 0 s.data.toList = V at hV ⊢
  go_enter Tryz.func116, Tryz.ntmps116
  go_wp2
  go_loop [8, 9] (fun tv ti => ∃ (k a m : Nat) (p : Bool), k ≤ s.size ∧ ti = .int .i64 k ∧ tv = .int .i64 (m : Int) ∧ m = min a 1099511627776 ∧ (p = true ↔ k = 0 ∨ ∃ h : k - 1 < s.size, s[k - 1].toNat = 95) ∧ (p = true → k = 0 ∨ k < s.size) ∧ okD 10 g p (s.data.toList.drop k) = O ∧ valD 10 a (s.data.toList.drop k) = V) (fun _ ti => s.size - (intOf ti).toNat)
  case atStart => exact ⟨0, 0, 0, true, Nat.zero_le _, rfl, rfl, by simp, by simp, by simp, hO.out, hV.out⟩
  case round =>
    obtain ⟨k, a, m, p, hk, rfl, rfl, hm, hp, hpl, ho, hv⟩ := hrel
    have HM : Hid (m = min a 1099511627776) := hm
    have hm2 : m ≤ 1099511627776 := by omega
    clear hm
    by_cases hlt : k < s.size
    · rw [drop_get s k hlt, okD] at ho
      rw [drop_get s k hlt, valD] at hv
      have hI := fun w => value10 s[k] w
      have hdl := dv_le s[k]
      by_cases hx : s[k].toNat = 95
      · rw [if_pos hx] at ho hv
        have hx' : (s[k].toNat : Int) = 95 := by omega
        clear hI hdl
        cases g with
        | false =>
          have HOf : Hid (O = false) := by show _ = _; rw [← ho]; simp
          clear ho hv hpl hp hx
          go_wp2
          go_ret2
          exact ⟨⟨0, ret_vb HOf.out.symm, DigRes.no HOf.out (by omega)⟩, rfl⟩
        | true =>
          by_cases hk0 : k = 0
          · have HOf : Hid (O = false) := by
              show _ = _
              have : p = true := hp.2 (.inl hk0)
              rw [← ho, this]; simp
            clear ho hv hpl hp hx
            subst hk0
            go_wp2
            go_ret2
            exact ⟨⟨0, ret_vb HOf.out.symm, DigRes.no HOf.out (by omega)⟩, rfl⟩
          · have hk0' : ¬ (k : Int) = 0 := by omega
            by_cases hkl : k = s.size - 1
            · have HOf : Hid (O = false) := by
                show _ = _
                rw [← ho, drop_end s (k + 1) (by omega)]; simp [okD]
              have hkl' : (s.size : Int) = (k : Int) + 1 := by omega
              clear ho hv hpl hp hx hkl
              go_wp2
              go_ret2
              exact ⟨⟨0, ret_vb HOf.out.symm, DigRes.no HOf.out (by omega)⟩, rfl⟩
            · have hkl' : ¬ (k : Int) = (s.size : Int) - 1 := by omega
              obtain ⟨j, rfl⟩ : ∃ j, k = j + 1 := ⟨k - 1, by omega⟩
              have hj : j < s.size := by omega
              have hq0 : ¬ (j : Int) + 1 = 0 := by omega
              have hq1 : ¬ (j : Int) + 1 = (s.size : Int) - 1 := by omega
              clear hk0' hkl' hk0
              by_cases hy : s[j].toNat = 95
              · have HOf : Hid (O = false) := by
                  show _ = _
                  have : p = true := hp.2 (.inr ⟨by omega, hy⟩)
                  rw [← ho, this]; simp
                have hy' : (s[j].toNat : Int) = 95 := by omega
                clear ho hv hpl hp hx
                go_wp2
                go_ret2
                exact ⟨⟨0, ret_vb HOf.out.symm, DigRes.no HOf.out (by omega)⟩, rfl⟩
              · have hpf : p = false := by
                  rw [← Bool.not_eq_true, hp]
                  rintro (h | ⟨_, h⟩)
                  · omega
                  · exact hy h
                have hy' : ¬ (s[j].toNat : Int) = 95 := by omega
                have HO : Hid (okD 10 true true (s.data.toList.drop (j + 1 + 1)) = O) := by
                  show _ = _
                  rw [← ho, hpf]; simp
                have HV : Hid (valD 10 a (s.data.toList.drop (j + 1 + 1)) = V) := hv
                have HX : Hid (s[j + 1].toNat = 95) := hx
                clear ho hv hpl hp hx hpf hkl hy
                go_wp2
                · exfalso
                  rename_i hc hw
                  simp only [beq_iff_eq] at hc
                  omega
                · go_round
                  case rel => exact ⟨j + 1 + 1, a, m, true, by omega, by go_num, rfl, HM.out, ⟨fun _ => .inr ⟨by omega, HX.out⟩, fun _ => rfl⟩, fun _ => .inr (by omega), HO.out, HV.out⟩
                  case measure => simp [intOf]; omega
      · rw [if_neg hx] at ho hv
        have hx' : ¬ (s[k].toNat : Int) = 95 := by omega
        by_cases hd : dv s[k] < 10
        · have HO : Hid (okD 10 g false (s.data.toList.drop (k + 1)) = O) := by
            show _ = _
            rw [if_pos hd] at ho
            exact ho
          have HV : Hid (valD 10 (a * 10 + dv s[k]) (s.data.toList.drop (k + 1)) = V) := hv
          have hr : rv 10 s[k] = (dv s[k] : Int) := by unfold rv; rw [if_pos hd]
          rw [hr] at hI
          have hd' : (dv s[k] : Int) < 10 := by omega
          have HX : Hid (¬ s[k].toNat = 95) := hx
          clear ho hv hx hr hp hpl
          generalize dv s[k] = d at *
          have hstep : (false = true ↔ k + 1 = 0 ∨ ∃ h : k + 1 - 1 < s.size, s[k + 1 - 1].toNat = 95) := by
            constructor
            · intro h; cases h
            · rintro (h | ⟨_, h⟩)
              · omega
              · exact absurd h HX.out
          have HS : Hid (false = true ↔ k + 1 = 0 ∨ ∃ h : k + 1 - 1 < s.size, s[k + 1 - 1].toNat = 95) := hstep
          clear hstep
          by_cases hbig : (1099511627776 : Int) < (m : Int) * 10 + (d : Int)
          · go_wp2_with (go_at_call 126; with_reducible refine (hI _).mono ?_; rintro e w' ⟨rfl, hwe⟩; subst hwe)
            go_round
            case rel => exact ⟨k + 1, a * 10 + d, 1099511627776, false, by omega, by go_num, by go_num, by have := HM.out; omega, HS.out, (fun h => by cases h), HO.out, HV.out⟩
            case measure => simp [intOf]; omega
          · go_wp2_with (go_at_call 126; with_reducible refine (hI _).mono ?_; rintro e w' ⟨rfl, hwe⟩; subst hwe)
            go_round
            case rel => exact ⟨k + 1, a * 10 + d, m * 10 + d, false, by omega, by go_num, by go_num, by have := HM.out; omega, HS.out, (fun h => by cases h), HO.out, HV.out⟩
            case measure => simp [intOf]; omega
        · have HOf : Hid (O = false) := by show _ = _; rw [← ho, if_neg hd]
          have hr : rv 10 s[k] = -1 := by unfold rv; rw [if_neg hd]
          rw [hr] at hI
          clear ho hv hx hd hr hp hpl
          go_wp2_with (go_at_call 126; with_reducible refine (hI _).mono ?_; rintro e w' ⟨rfl, hwe⟩; subst hwe)
          go_ret2
          exact ⟨⟨0, ret_vb HOf.out.symm, DigRes.no HOf.out (by omega)⟩, rfl⟩
    · rw [drop_end s k (by omega), okD] at ho
      rw [drop_end s k (by omega), valD] at hv
      subst hv
      by_cases h0 : s.size = 0
      · have HOf : Hid (O = false) := by
          show _ = _
          have : p = true := hp.2 (.inl (by omega))
          rw [← ho, this]; rfl
        have h0' : ¬ (0 : Int) < (s.size : Int) := by omega
        clear ho hp hpl
        go_wp2
        go_ret2
        exact ⟨⟨m, ret_vb (by rw [HOf.out]), DigRes.no HOf.out (by omega)⟩, rfl⟩
      · have HOf : Hid (O = true) := by
          show _ = _
          have : p = false := by
            rw [← Bool.not_eq_true]; intro h; have := hpl h; omega
          rw [← ho, this]; rfl
        have h0' : (0 : Int) < (s.size : Int) := by omega
        clear ho hp hpl
        go_wp2
        go_ret2
        exact ⟨⟨m, ret_vb (by rw [HOf.out]; simp; try omega), DigRes.yes HM.out (by omega)⟩, rfl⟩

set_option maxRecDepth 100000 in
set_option maxHeartbeats 4000000 in
theorem digits16 (s : ByteArray) (g : Bool) (w : World) (hs : s.size < 4611686018427387904) :
    Calls Tryz.prog 116 #[.string s, .int .i64 16, .bool g] w fun e w' => (∃ v : Nat, e = .returned (.tuple #[.int .i64 v, .bool (okD 16 g true s.data.toList)]) ∧ DigRes (okD 16 g true s.data.toList) (valD 16 0 s.data.toList) 1099511627776 v) ∧ w' = w := by
  have hO : Hid (okD 16 g true (s.data.toList.drop 0) = okD 16 g true s.data.toList) := rfl
  have hV : Hid (valD 16 0 (s.data.toList.drop 0) = valD 16 0 s.data.toList) := rfl
  generalize okD 16 g true s.data.toList = O at hO ⊢
  generalize valD 16 0 s.data.toList = V at hV ⊢
  go_enter Tryz.func116, Tryz.ntmps116
  go_wp2
  go_loop [8, 9] (fun tv ti => ∃ (k a m : Nat) (p : Bool), k ≤ s.size ∧ ti = .int .i64 k ∧ tv = .int .i64 (m : Int) ∧ m = min a 1099511627776 ∧ (p = true ↔ k = 0 ∨ ∃ h : k - 1 < s.size, s[k - 1].toNat = 95) ∧ (p = true → k = 0 ∨ k < s.size) ∧ okD 16 g p (s.data.toList.drop k) = O ∧ valD 16 a (s.data.toList.drop k) = V) (fun _ ti => s.size - (intOf ti).toNat)
  case atStart => exact ⟨0, 0, 0, true, Nat.zero_le _, rfl, rfl, by simp, by simp, by simp, hO.out, hV.out⟩
  case round =>
    obtain ⟨k, a, m, p, hk, rfl, rfl, hm, hp, hpl, ho, hv⟩ := hrel
    have HM : Hid (m = min a 1099511627776) := hm
    have hm2 : m ≤ 1099511627776 := by omega
    clear hm
    by_cases hlt : k < s.size
    · rw [drop_get s k hlt, okD] at ho
      rw [drop_get s k hlt, valD] at hv
      have hI := fun w => value16 s[k] w
      have hdl := dv_le s[k]
      by_cases hx : s[k].toNat = 95
      · rw [if_pos hx] at ho hv
        have hx' : (s[k].toNat : Int) = 95 := by omega
        clear hI hdl
        cases g with
        | false =>
          have HOf : Hid (O = false) := by show _ = _; rw [← ho]; simp
          clear ho hv hpl hp hx
          go_wp2
          go_ret2
          exact ⟨⟨0, ret_vb HOf.out.symm, DigRes.no HOf.out (by omega)⟩, rfl⟩
        | true =>
          by_cases hk0 : k = 0
          · have HOf : Hid (O = false) := by
              show _ = _
              have : p = true := hp.2 (.inl hk0)
              rw [← ho, this]; simp
            clear ho hv hpl hp hx
            subst hk0
            go_wp2
            go_ret2
            exact ⟨⟨0, ret_vb HOf.out.symm, DigRes.no HOf.out (by omega)⟩, rfl⟩
          · have hk0' : ¬ (k : Int) = 0 := by omega
            by_cases hkl : k = s.size - 1
            · have HOf : Hid (O = false) := by
                show _ = _
                rw [← ho, drop_end s (k + 1) (by omega)]; simp [okD]
              have hkl' : (s.size : Int) = (k : Int) + 1 := by omega
              clear ho hv hpl hp hx hkl
              go_wp2
              go_ret2
              exact ⟨⟨0, ret_vb HOf.out.symm, DigRes.no HOf.out (by omega)⟩, rfl⟩
            · have hkl' : ¬ (k : Int) = (s.size : Int) - 1 := by omega
              obtain ⟨j, rfl⟩ : ∃ j, k = j + 1 := ⟨k - 1, by omega⟩
              have hj : j < s.size := by omega
              have hq0 : ¬ (j : Int) + 1 = 0 := by omega
              have hq1 : ¬ (j : Int) + 1 = (s.size : Int) - 1 := by omega
              clear hk0' hkl' hk0
              by_cases hy : s[j].toNat = 95
              · have HOf : Hid (O = false) := by
                  show _ = _
                  have : p = true := hp.2 (.inr ⟨by omega, hy⟩)
                  rw [← ho, this]; simp
                have hy' : (s[j].toNat : Int) = 95 := by omega
                clear ho hv hpl hp hx
                go_wp2
                go_ret2
                exact ⟨⟨0, ret_vb HOf.out.symm, DigRes.no HOf.out (by omega)⟩, rfl⟩
              · have hpf : p = false := by
                  rw [← Bool.not_eq_true, hp]
                  rintro (h | ⟨_, h⟩)
                  · omega
                  · exact hy h
                have hy' : ¬ (s[j].toNat : Int) = 95 := by omega
                have HO : Hid (okD 16 true true (s.data.toList.drop (j + 1 + 1)) = O) := by
                  show _ = _
                  rw [← ho, hpf]; simp
                have HV : Hid (valD 16 a (s.data.toList.drop (j + 1 + 1)) = V) := hv
                have HX : Hid (s[j + 1].toNat = 95) := hx
                clear ho hv hpl hp hx hpf hkl hy
                go_wp2
                · exfalso
                  rename_i hc hw
                  simp only [beq_iff_eq] at hc
                  omega
                · go_round
                  case rel => exact ⟨j + 1 + 1, a, m, true, by omega, by go_num, rfl, HM.out, ⟨fun _ => .inr ⟨by omega, HX.out⟩, fun _ => rfl⟩, fun _ => .inr (by omega), HO.out, HV.out⟩
                  case measure => simp [intOf]; omega
      · rw [if_neg hx] at ho hv
        have hx' : ¬ (s[k].toNat : Int) = 95 := by omega
        by_cases hd : dv s[k] < 16
        · have HO : Hid (okD 16 g false (s.data.toList.drop (k + 1)) = O) := by
            show _ = _
            rw [if_pos hd] at ho
            exact ho
          have HV : Hid (valD 16 (a * 16 + dv s[k]) (s.data.toList.drop (k + 1)) = V) := hv
          have hr : rv 16 s[k] = (dv s[k] : Int) := by unfold rv; rw [if_pos hd]
          rw [hr] at hI
          have hd' : (dv s[k] : Int) < 16 := by omega
          have HX : Hid (¬ s[k].toNat = 95) := hx
          clear ho hv hx hr hp hpl
          generalize dv s[k] = d at *
          have hstep : (false = true ↔ k + 1 = 0 ∨ ∃ h : k + 1 - 1 < s.size, s[k + 1 - 1].toNat = 95) := by
            constructor
            · intro h; cases h
            · rintro (h | ⟨_, h⟩)
              · omega
              · exact absurd h HX.out
          have HS : Hid (false = true ↔ k + 1 = 0 ∨ ∃ h : k + 1 - 1 < s.size, s[k + 1 - 1].toNat = 95) := hstep
          clear hstep
          by_cases hbig : (1099511627776 : Int) < (m : Int) * 16 + (d : Int)
          · go_wp2_with (go_at_call 126; with_reducible refine (hI _).mono ?_; rintro e w' ⟨rfl, hwe⟩; subst hwe)
            go_round
            case rel => exact ⟨k + 1, a * 16 + d, 1099511627776, false, by omega, by go_num, by go_num, by have := HM.out; omega, HS.out, (fun h => by cases h), HO.out, HV.out⟩
            case measure => simp [intOf]; omega
          · go_wp2_with (go_at_call 126; with_reducible refine (hI _).mono ?_; rintro e w' ⟨rfl, hwe⟩; subst hwe)
            go_round
            case rel => exact ⟨k + 1, a * 16 + d, m * 16 + d, false, by omega, by go_num, by go_num, by have := HM.out; omega, HS.out, (fun h => by cases h), HO.out, HV.out⟩
            case measure => simp [intOf]; omega
        · have HOf : Hid (O = false) := by show _ = _; rw [← ho, if_neg hd]
          have hr : rv 16 s[k] = -1 := by unfold rv; rw [if_neg hd]
          rw [hr] at hI
          clear ho hv hx hd hr hp hpl
          go_wp2_with (go_at_call 126; with_reducible refine (hI _).mono ?_; rintro e w' ⟨rfl, hwe⟩; subst hwe)
          go_ret2
          exact ⟨⟨0, ret_vb HOf.out.symm, DigRes.no HOf.out (by omega)⟩, rfl⟩
    · rw [drop_end s k (by omega), okD] at ho
      rw [drop_end s k (by omega), valD] at hv
      subst hv
      by_cases h0 : s.size = 0
      · have HOf : Hid (O = false) := by
          show _ = _
          have : p = true := hp.2 (.inl (by omega))
          rw [← ho, this]; rfl
        have h0' : ¬ (0 : Int) < (s.size : Int) := by omega
        clear ho hp hpl
        go_wp2
        go_ret2
        exact ⟨⟨m, ret_vb (by rw [HOf.out]), DigRes.no HOf.out (by omega)⟩, rfl⟩
      · have HOf : Hid (O = true) := by
          show _ = _
          have : p = false := by
            rw [← Bool.not_eq_true]; intro h; have := hpl h; omega
          rw [← ho, this]; rfl
        have h0' : (0 : Int) < (s.size : Int) := by omega
        clear ho hp hpl
        go_wp2
        go_ret2
        exact ⟨⟨m, ret_vb (by rw [HOf.out]; simp; try omega), DigRes.yes HM.out (by omega)⟩, rfl⟩
end Go.Proofs.YtnicolaphmffkaaGreatDoor
