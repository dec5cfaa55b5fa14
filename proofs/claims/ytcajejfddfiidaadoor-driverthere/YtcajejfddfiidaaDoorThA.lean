import Derived.Laws.AppendOwn
import Derived.Test.YtcajejfddfiidaaDoorDrY
namespace Go.Proofs.YtcajejfddfiidaaDoor
open Go.RowKit
set_option linter.unusedVariables false
set_option linter.unusedSimpArgs false


/-- A letter made of any byte. -/
def pb (c : UInt8) : UInt8 := match c.toNat % 4 with | 0 => 114 | 1 => 108 | 2 => 103 | _ => 97
theorem pb_L (c : UInt8) : isL (pb c) = true := by unfold pb; split <;> rfl
def hpF (h : ByteArray) (k : Nat) : ByteArray := ⟨((h.data.toList.take k).map pb).toArray⟩
def spF (s : Int) : Int := if s.tmod 256 < 0 then -1 else s.tmod 256
def plE (e : En) : En := ⟨hpF e.heads 64, spF e.stage⟩
def plL (L : List En) : List En := (L.take 65536).map plE
theorem hp_zero (h : ByteArray) : hpF h 0 = ⟨#[]⟩ := by unfold hpF; simp
theorem hp_succ (h : ByteArray) (k : Nat) (hk : k < h.size) : hpF h k ++ ⟨#[pb h[k]]⟩ = hpF h (k + 1) := by
  apply WideShapes.bytes_inj
  unfold hpF
  have hk' : k < h.data.toList.length := by simpa using hk
  simp only [ByteArray.toList_data_append, List.take_add_one]
  simp [List.getElem?_eq_getElem hk', ByteArray.getElem_eq_getElem_data]
theorem hp_end (h : ByteArray) (k : Nat) (hk : h.size ≤ k) : hpF h k = hpF h h.size := by
  unfold hpF
  rw [List.take_of_length_le (by simpa using hk), List.take_of_length_le (by simp)]
theorem plE_toB (e : En) : toB (plE e) = true := by
  unfold toB
  rw [Bool.and_eq_true]
  constructor
  · unfold hdB
    rw [Bool.and_eq_true, decide_eq_true_eq]
    constructor
    · show (hpF e.heads 64).data.size ≤ 64
      unfold hpF
      simp
      omega
    · show (hpF e.heads 64).data.toList.all isL = true
      rw [List.all_eq_true]
      intro x hx
      have hx2 : x ∈ (e.heads.data.toList.take 64).map pb := by unfold hpF at hx; simpa using hx
      obtain ⟨y, _, rfl⟩ := List.mem_map.1 hx2
      exact pb_L y
  · unfold stB plE spF
    rw [Bool.and_eq_true, decide_eq_true_eq, decide_eq_true_eq]
    have := Int.tmod_lt_of_pos e.stage (b := 256) (by decide)
    show -1 ≤ (if e.stage.tmod 256 < 0 then -1 else e.stage.tmod 256) ∧ (if e.stage.tmod 256 < 0 then -1 else e.stage.tmod 256) ≤ 255
    split <;> omega
theorem tr_some : ∀ (L : List En) (a i : Nat), (∀ e ∈ L, toB e = true) → i + L.length ≤ 65536 → a ≤ i → ∃ t, trR a i L = some t ∧ t.size ≤ L.length * 200 := by
  intro L
  induction L with
  | nil => intro a i _ _ _; exact ⟨⟨#[]⟩, rfl, by show (0 : Nat) ≤ _; omega⟩
  | cons x L ih =>
    intro a i h hl ha
    have hx := h x (by simp)
    have hs := toB_sz hx
    simp only [List.length_cons] at hl ⊢
    unfold trR
    rw [if_pos hx]
    by_cases hn : nxS x L = true
    · rw [if_pos hn]
      obtain ⟨t, h1, h2⟩ := ih a (i + 1) (fun e he => h e (by simp [he])) (by omega) (by omega)
      exact ⟨t, h1, by omega⟩
    · rw [if_neg hn]
      obtain ⟨t, h1, h2⟩ := ih (i + 1) (i + 1) (fun e he => h e (by simp [he])) (by omega) (by omega)
      refine ⟨_, by rw [h1]; rfl, ?_⟩
      have := ln_size a i x.heads x.stage (by omega) (by omega) hs.1 ⟨by omega, by omega⟩
      rw [ByteArray.size_append]
      omega
theorem pl_len (L : List En) : (plL L).length ≤ 65536 := by unfold plL; simp; omega
theorem pl_trA (L : List En) : ∃ t, trA (plL L) = some t ∧ t.size ≤ 13107200 := by
  have hl := pl_len L
  obtain ⟨t, h1, h2⟩ := tr_some (plL L) 0 0 (fun e he => by unfold plL at he; obtain ⟨x, _, rfl⟩ := List.mem_map.1 he; exact plE_toB x) (by omega) (by omega)
  refine ⟨t, ?_, by omega⟩
  unfold trA
  rw [if_neg (by omega)]
  exact h1
end Go.Proofs.YtcajejfddfiidaaDoor
