import Derived.Test.YtkeoebllblbkgaaGreatDoorTbM
import Derived.Laws.EntriesVeiled
namespace Go.Proofs.YtkeoebllblbkgaaGreatDoor
open Go.RowKit
set_option linter.unusedVariables false
set_option linter.unusedSimpArgs false

set_option maxRecDepth 100000 in
set_option maxHeartbeats 2000000 in
theorem idxR (L : List Rw) (a : Option Addr) (c b : Nat) (p : Rw → Bool) (w : World) (hL : L = [] ∨ ∃ g o, a = some ⟨g, o, none⟩ ∧ g < w.heap.size ∧ ∀ (i : Nat) (h : i < L.length) (j : Nat) (u : Value), (Rw.cs L[i])[j]? = some u → w.cell? ⟨g, o + i * 2 + j, none⟩ = some u) (hl : L.length ≤ 8796093021952)
    (hC : ∀ W, Below w.heap.size w W → ∀ (i : Nat) (h : i < L.length), Calls Tryz.prog 89 #[.agg #[.int .i64 L[i].m, .int .i64 L[i].s], .pointer (some ⟨b, 0, none⟩)] W fun e W' => e = .returned (.bool (!p L[i])) ∧ Below W.heap.size W W') :
    Calls Tryz.prog 103 #[.slice a L.length c, .func (.func 89) #[] #[.pointer (some ⟨b, 0, none⟩)]] w fun e w' => IxP e (L.all p) ∧ Below w.heap.size w w' := by
  have hC' : Hid (∀ W, Below w.heap.size w W → ∀ (i : Nat) (h : i < L.length), Calls Tryz.prog 89 #[.agg #[.int .i64 L[i].m, .int .i64 L[i].s], .pointer (some ⟨b, 0, none⟩)] W fun e W' => e = .returned (.bool (!p L[i])) ∧ Below W.heap.size W W') := hC
  clear hC
  go_enter Tryz.func103, Tryz.ntmps103
  go_wp2
  go_loopg [5, 8] L.length (fun gk s5 s8 wr => ∃ k : Nat, k + gk = L.length ∧ s8 = .int .i64 (k : Int) ∧ Hid ((L.drop k).all p = L.all p) ∧ Below w.heap.size w wr)
  case atStart => exact ⟨0, by omega, rfl, by show _ = _; simp, Below.refl _ _⟩
  case round =>
    obtain ⟨k, hk, rfl, hA, hb⟩ := hrel
    by_cases hlt : k < L.length
    · obtain ⟨g, o, rfl, hg, P⟩ := hL.resolve_left (by intro e; rw [e] at hlt; simp at hlt)
      have p0 := (hb.cell (p := ⟨g, _, none⟩) hg).trans (P k hlt 0 _ rfl)
      have p1 := (hb.cell (p := ⟨g, _, none⟩) hg).trans (P k hlt 1 _ rfl)
      simp only [Nat.add_zero] at p0
      have t1 : (k : Int) < (L.length : Int) := by omega
      have t0 : (0 : Int) ≤ (k : Int) := by omega
      have hc := hC'.out wr hb k hlt
      have hs := all_drop p L k hlt
      have hE : Hid (L.all p = (p L[k] && (L.drop (k + 1)).all p)) := by show _ = _; rw [← hA.out, hs]
      clear hs hA P hL
      cases hp : p L[k] with
      | true =>
        rw [hp] at hc
        have hE2 : Hid ((L.drop (k + 1)).all p = L.all p) := by show _ = _; rw [hE.out, hp]; rfl
        clear hE hp
        go_wp2_with (go_at_call 89; (with_reducible refine hc.mono ?_); rintro e w' ⟨rfl, hb2⟩)
        go_roundg (gk - 1)
        case measure => go_light; omega
        case rel => exact ⟨k + 1, by omega, by go_num, hE2, belT hb hb2⟩
      | false =>
        rw [hp] at hc
        have hE2 : Hid (L.all p = false) := by show _ = _; rw [hE.out, hp]; rfl
        clear hE hp
        go_wp2_with (go_at_call 89; (with_reducible refine hc.mono ?_); rintro e w' ⟨rfl, hb2⟩)
        go_ret
        exact ⟨⟨_, rfl, by rw [hE2.out]; simp⟩, belT hb hb2⟩
    · obtain rfl : k = L.length := by omega
      have t1 : ¬ (L.length : Int) < (L.length : Int) := by omega
      have hE2 : Hid (L.all p = true) := by show _ = _; rw [← hA.out]; simp
      clear hL
      go_wp2
      go_ret
      exact ⟨⟨_, rfl, by rw [hE2.out]; rfl⟩, hb⟩
set_option maxRecDepth 100000 in
set_option maxHeartbeats 2000000 in
theorem cntR (L : List Rw) (a : Option Addr) (c b : Nat) (p : Rw → Bool) (w : World) (hL : L = [] ∨ ∃ g o, a = some ⟨g, o, none⟩ ∧ g < w.heap.size ∧ ∀ (i : Nat) (h : i < L.length) (j : Nat) (u : Value), (Rw.cs L[i])[j]? = some u → w.cell? ⟨g, o + i * 2 + j, none⟩ = some u) (hl : L.length ≤ 8796093021952)
    (hC : ∀ W, Below w.heap.size w W → ∀ (i : Nat) (h : i < L.length), Calls Tryz.prog 89 #[.agg #[.int .i64 L[i].m, .int .i64 L[i].s], .pointer (some ⟨b, 0, none⟩)] W fun e W' => e = .returned (.bool (!p L[i])) ∧ Below W.heap.size W W') :
    Calls Tryz.prog 88 #[.slice a L.length c, .func (.func 89) #[] #[.pointer (some ⟨b, 0, none⟩)]] w fun e w' => e = .returned (.bool (!L.all p)) ∧ Below w.heap.size w w' := by
  have hc := idxR L a c b p w hL hl hC
  generalize L.all p = R at *
  clear hL hC
  go_enter Tryz.func88, Tryz.ntmps88
  go_wp2_with (go_at_call 103; (with_reducible refine hc.mono ?_); rintro e w' ⟨⟨z, rfl, hz⟩, hb2⟩)
  go_ret
  exact ⟨rfl, hb2⟩
set_option maxRecDepth 100000 in
set_option maxHeartbeats 2000000 in
theorem cloR65 (x : Rw) (b : Nat) (B : Bool) (w : World) (hb : w.cell? ⟨b, 0, none⟩ = some (.func (.func 56) #[] #[]))
    (hK : ∀ W, Below w.heap.size w W → Calls Tryz.prog 56 #[.agg #[.int .i64 x.m, .int .i64 x.s]] W fun e W' => e = .returned (.bool B) ∧ Below W.heap.size W W') :
    Calls Tryz.prog 89 #[.agg #[.int .i64 x.m, .int .i64 x.s], .pointer (some ⟨b, 0, none⟩)] w fun e w' => e = .returned (.bool (!B)) ∧ Below w.heap.size w w' := by
  have hlt : b < w.heap.size := cell_ltF hb
  obtain ⟨x0, x1⟩ := x
  dsimp only at *
  go_enter Tryz.func89, Tryz.ntmps89
  go_wp2_with (go_at_call 56; (with_reducible refine (hK _ bel1).mono ?_); rintro e w' ⟨rfl, hb2⟩)
  go_ret
  exact ⟨rfl, belT bel1 hb2⟩
set_option maxRecDepth 100000 in
set_option maxHeartbeats 2000000 in
theorem allR65 (L : List Rw) (a : Option Addr) (c : Nat) (p : Rw → Bool) (w : World) (hL : L = [] ∨ ∃ g o, a = some ⟨g, o, none⟩ ∧ g < w.heap.size ∧ ∀ (i : Nat) (h : i < L.length) (j : Nat) (u : Value), (Rw.cs L[i])[j]? = some u → w.cell? ⟨g, o + i * 2 + j, none⟩ = some u) (hl : L.length ≤ 8796093021952)
    (hK : ∀ W, Below w.heap.size w W → ∀ (i : Nat) (h : i < L.length), Calls Tryz.prog 56 #[.agg #[.int .i64 L[i].m, .int .i64 L[i].s]] W fun e W' => e = .returned (.bool (p L[i])) ∧ Below W.heap.size W W') :
    Calls Tryz.prog 55 #[.slice a L.length c, .func (.func 56) #[] #[]] w fun e w' => e = .returned (.bool (L.all p)) ∧ Below w.heap.size w w' := by
  have hmf : ∀ (fn : Fn) (first cap : Array Value) (w : World), (Instr.makeFunc fn first cap).run Tryz.prog w = .ok (.func fn first cap) w := fun _ _ _ _ => rfl
  have hc := cntR L a c w.heap.size p (w.alloc (.cells #[.func (.func 56) #[] #[]] 83)) (hL.imp id (fun ⟨g, o, e1, e2, e3⟩ => ⟨g, o, e1, by simp; omega, fun i h j u hu => (bel1.cell (p := ⟨g, _, none⟩) e2).trans (e3 i h j u hu)⟩)) hl (by
    intro W hW i hi
    refine cloR65 L[i] w.heap.size (p L[i]) W ?_ (fun W2 hW2 => hK W2 (belT (belT bel1 hW) hW2) i hi)
    rw [hW.cell (p := ⟨w.heap.size, 0, none⟩) (by simp)]
    exact (Has.new w #[_] 83 rfl).2.1 0)
  generalize L.all p = R at *
  clear hL hK
  go_enter Tryz.func55, Tryz.ntmps55
  go_wp2_with (go_at_call 88; (with_reducible refine hc.mono ?_); rintro e w' ⟨rfl, hb2⟩)
  go_ret
  exact ⟨by simp, belT bel1 hb2⟩
end Go.Proofs.YtkeoebllblbkgaaGreatDoor
