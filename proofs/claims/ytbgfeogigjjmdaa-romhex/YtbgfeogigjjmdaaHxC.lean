import Derived.Test.YtbgfeogigjjmdaaHxB
import Derived.Laws.MakeOwn
namespace Go.Proofs.Ytbgfeogigjjmdaa
open Go.RowKit
set_option linter.unusedVariables false

/-- Bytes as cells. -/
def v8 (L : List Nat) : List Value := L.map fun (x : Nat) => .int .u8 (x : Int)
theorem v8_len (L : List Nat) : (v8 L).length = L.length := by simp [v8]
theorem v8_app (L M : List Nat) : v8 (L ++ M) = v8 L ++ v8 M := by simp [v8]
theorem v8_get (L : List Nat) (i : Nat) (h : i < L.length) : (v8 L)[i]? = some (.int .u8 ((L.getD i 0 : Nat) : Int)) := by simp [v8, h]
theorem v8_one (L : List Nat) : ∀ u ∈ v8 L, u.oneCell' = true := by
  intro u hu
  unfold v8 at hu
  rw [List.mem_map] at hu
  obtain ⟨x, _, rfl⟩ := hu
  rfl
/-- Bytes as they are read: nothing is known of the address where there are none. -/
def Bs (w : World) (a : Option Addr) (L : List Nat) : Prop := (∀ x ∈ L, x < 256) ∧ (L = [] ∨ ∃ b o, a = some ⟨b, o, none⟩ ∧ b < w.heap.size ∧ ∀ i, i < L.length → w.cell? ⟨b, o + i, none⟩ = some (.int .u8 ((L.getD i 0 : Nat) : Int)))
theorem Bs.cell {w : World} {a : Option Addr} {L : List Nat} (h : Bs w a L) (hp : 0 < L.length) : ∃ b o, a = some ⟨b, o, none⟩ ∧ b < w.heap.size ∧ ∀ i, i < L.length → w.cell? ⟨b, o + i, none⟩ = some (.int .u8 ((L.getD i 0 : Nat) : Int)) := by
  rcases h.2 with rfl | h
  · simp at hp
  · exact h
theorem getD_lt {L : List Nat} (h : ∀ x ∈ L, x < 256) (i : Nat) : L.getD i 0 < 256 := by
  rcases Nat.lt_or_ge i L.length with hi | hi
  · rw [List.getD_eq_getElem?_getD, List.getElem?_eq_getElem hi]; exact h _ (List.getElem_mem hi)
  · rw [List.getD_eq_getElem?_getD, List.getElem?_eq_none hi]; decide
theorem Bs.below {w w' : World} {a : Option Addr} {L : List Nat} (h : Bs w a L) (hb : Below w.heap.size w w') : Bs w' a L := by
  refine ⟨h.1, h.2.imp id ?_⟩
  rintro ⟨b, o, rfl, h1, h2⟩
  exact ⟨b, o, rfl, Nat.lt_of_lt_of_le h1 hb.size, fun i hi => (hb.cell (p := ⟨b, o + i, none⟩) h1).trans (h2 i hi)⟩
/-- Bytes that lie beside a builder. -/
def Bsa (b : Nat) (w : World) (a : Option Addr) (L : List Nat) : Prop := Bs w a L ∧ (L = [] ∨ ∃ d o, a = some ⟨d, o, none⟩ ∧ Apart b d w)
theorem Bsa.kp {b : Nat} {w w' : World} {a : Option Addr} {L : List Nat} (h : Bsa b w a L) (hk : Kp b w w') : Bsa b w' a L := by
  rcases h.2 with rfl | ⟨d, o, rfl, ha⟩
  · exact ⟨⟨by simp, .inl rfl⟩, .inl rfl⟩
  · obtain ⟨k1, k2⟩ := hk d ha
    refine ⟨⟨h.1.1, h.1.2.imp id ?_⟩, .inr ⟨d, o, rfl, k1⟩⟩
    rintro ⟨b', o', e, h1, h2⟩
    cases e
    exact ⟨d, o, rfl, k1.2.1, fun i hi => (World.cell?_of_block (w := w) k2).trans (h2 i hi)⟩

/-- The letter of a hex digit. -/
def hl (x : Nat) : Nat := if x < 10 then 48 + x else 55 + x
/-- A byte's two letters. -/
def h2 (x : Nat) : List Nat := [hl (x / 16), hl (x % 16)]
def hx (L : List Nat) : List Nat := L.flatMap h2
theorem hx_app (L M : List Nat) : hx (L ++ M) = hx L ++ hx M := by simp [hx]
theorem hx_len (L : List Nat) : (hx L).length = 2 * L.length := by
  induction L with
  | nil => rfl
  | cons x r ih => simp only [hx, List.flatMap_cons, List.length_append, List.length_cons] at ih ⊢; rw [ih]; simp [h2]; omega
theorem hl_lt {x : Nat} (h : x < 16) : hl x < 256 := by unfold hl; split <;> omega
theorem hx_lt (L : List Nat) (h : ∀ x ∈ L, x < 256) : ∀ y ∈ hx L, y < 256 := by
  intro y hy
  unfold hx at hy
  rw [List.mem_flatMap] at hy
  obtain ⟨x, hx, hy⟩ := hy
  have := h x hx
  simp only [h2, List.mem_cons, List.not_mem_nil, or_false] at hy
  rcases hy with rfl | rfl
  · exact hl_lt (by omega)
  · exact hl_lt (by omega)
def tabS : ByteArray := ⟨#[48, 49, 50, 51, 52, 53, 54, 55, 56, 57, 65, 66, 67, 68, 69, 70]⟩
theorem tab_at : ∀ x : Nat, x < 16 → ∀ w : World, Sem.run Try.prog (Instr.index 9 (.string ⟨#[48, 49, 50, 51, 52, 53, 54, 55, 56, 57, 65, 66, 67, 68, 69, 70]⟩) (.int .u8 (x : Int))) w = .ok (.int .u8 ((hl x : Nat) : Int)) w := by
  intro x hx w
  have : x = 0 ∨ x = 1 ∨ x = 2 ∨ x = 3 ∨ x = 4 ∨ x = 5 ∨ x = 6 ∨ x = 7 ∨ x = 8 ∨ x = 9 ∨ x = 10 ∨ x = 11 ∨ x = 12 ∨ x = 13 ∨ x = 14 ∨ x = 15 := by omega
  rcases this with rfl | rfl | rfl | rfl | rfl | rfl | rfl | rfl | rfl | rfl | rfl | rfl | rfl | rfl | rfl | rfl <;> (refine Eq.trans (b := .ok (.int .u8 _) w) ?_ rfl; rfl)
end Go.Proofs.Ytbgfeogigjjmdaa
