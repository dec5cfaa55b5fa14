import Derived.Test.YtddphepgcihdbaaTbM
import Derived.Laws.EntriesVeiled
namespace Go.Proofs.Ytddphepgcihdbaa
open Go.RowKit
set_option linter.unusedVariables false
set_option linter.unusedSimpArgs false

set_option maxRecDepth 100000 in
set_option maxHeartbeats 2000000 in
theorem idxD (L : List Dk) (a : Option Addr) (c b : Nat) (p : Dk → Bool) (w : World) (hL : L = [] ∨ ∃ g o, a = some ⟨g, o, none⟩ ∧ g < w.heap.size ∧ ∀ (i : Nat) (h : i < L.length) (j : Nat) (u : Value), (Dk.cs L[i])[j]? = some u → w.cell? ⟨g, o + i * 2 + j, none⟩ = some u) (hl : L.length ≤ 3518437208781)
    (hC : ∀ W, Below w.heap.size w W → ∀ (i : Nat) (h : i < L.length), Calls Try.prog 82 #[.agg #[.string L[i].name, L[i].rv], .pointer (some ⟨b, 0, none⟩)] W fun e W' => e = .returned (.bool (!p L[i])) ∧ Below W.heap.size W W') :
    Calls Try.prog 94 #[.slice a L.length c, .func (.func 82) #[] #[.pointer (some ⟨b, 0, none⟩)]] w fun e w' => IxP e (L.all p) ∧ Below w.heap.size w w' := by
  have hC' : Hid (∀ W, Below w.heap.size w W → ∀ (i : Nat) (h : i < L.length), Calls Try.prog 82 #[.agg #[.string L[i].name, L[i].rv], .pointer (some ⟨b, 0, none⟩)] W fun e W' => e = .returned (.bool (!p L[i])) ∧ Below W.heap.size W W') := hC
  clear hC
  go_enter Try.func94, Try.ntmps94
  go_wp2
  go_loopg [5, 8] L.length (fun gk s5 s8 wr => ∃ k : Nat, k + gk = L.length ∧ s8 = .int .i64 (k : Int) ∧ Hid ((L.drop k).all p = L.all p) ∧ Below w.heap.size w wr)
  case atStart => exact ⟨0, by omega, rfl, by show _ = _; simp, Below.refl _ _⟩
  case round =>
    obtain ⟨k, hk, rfl, hA, hb⟩ := hrel
    by_cases hlt : k < L.length
    · obtain ⟨g, o, rfl, hg, P⟩ := hL.resolve_left (by intro e; rw [e] at hlt; simp at hlt)
      have p0 := (hb.cell (p := ⟨g, _, none⟩) hg).trans (P k hlt 0 _ rfl)
      have p1 := (hb.cell (p := ⟨g, _, none⟩) hg).trans (P k hlt 1 _ rfl)
      simp only [Nat.add_zero] at p0
      have t1 : (k : Int) < (L.length : Int) := by omega
      have t0 : (0 : Int) ≤ (k : Int) := by omega
      have hc := hC'.out wr hb k hlt
      have hs := all_drop p L k hlt
      have hE : Hid (L.all p = (p L[k] && (L.drop (k + 1)).all p)) := by show _ = _; rw [← hA.out, hs]
      clear hs hA P hL
      cases hp : p L[k] with
      | true =>
        rw [hp] at hc
        have hE2 : Hid ((L.drop (k + 1)).all p = L.all p) := by show _ = _; rw [hE.out, hp]; rfl
        clear hE hp
        go_wp2_with (go_at_call 82; (with_reducible refine hc.mono ?_); rintro e w' ⟨rfl, hb2⟩)
        go_roundg (gk - 1)
        case measure => go_light; omega
        case rel => exact ⟨k + 1, by omega, by go_num, hE2, belT hb hb2⟩
      | false =>
        rw [hp] at hc
        have hE2 : Hid (L.all p = false) := by show _ = _; rw [hE.out, hp]; rfl
        clear hE hp
        go_wp2_with (go_at_call 82; (with_reducible refine hc.mono ?_); rintro e w' ⟨rfl, hb2⟩)
        go_ret
        exact ⟨⟨_, rfl, by rw [hE2.out]; simp⟩, belT hb hb2⟩
    · obtain rfl : k = L.length := by omega
      have t1 : ¬ (L.length : Int) < (L.length : Int) := by omega
      have hE2 : Hid (L.all p = true) := by show _ = _; rw [← hA.out]; simp
      clear hL
      go_wp2
      go_ret
      exact ⟨⟨_, rfl, by rw [hE2.out]; rfl⟩, hb⟩
set_option maxRecDepth 100000 in
set_option maxHeartbeats 2000000 in
theorem cntD (L : List Dk) (a : Option Addr) (c b : Nat) (p : Dk → Bool) (w : World) (hL : L = [] ∨ ∃ g o, a = some ⟨g, o, none⟩ ∧ g < w.heap.size ∧ ∀ (i : Nat) (h : i < L.length) (j : Nat) (u : Value), (Dk.cs L[i])[j]? = some u → w.cell? ⟨g, o + i * 2 + j, none⟩ = some u) (hl : L.length ≤ 3518437208781)
    (hC : ∀ W, Below w.heap.size w W → ∀ (i : Nat) (h : i < L.length), Calls Try.prog 82 #[.agg #[.string L[i].name, L[i].rv], .pointer (some ⟨b, 0, none⟩)] W fun e W' => e = .returned (.bool (!p L[i])) ∧ Below W.heap.size W W') :
    Calls Try.prog 81 #[.slice a L.length c, .func (.func 82) #[] #[.pointer (some ⟨b, 0, none⟩)]] w fun e w' => e = .returned (.bool (!L.all p)) ∧ Below w.heap.size w w' := by
  have hc := idxD L a c b p w hL hl hC
  generalize L.all p = R at *
  clear hL hC
  go_enter Try.func81, Try.ntmps81
  go_wp2_with (go_at_call 94; (with_reducible refine hc.mono ?_); rintro e w' ⟨⟨z, rfl, hz⟩, hb2⟩)
  go_ret
  exact ⟨rfl, hb2⟩
set_option maxRecDepth 100000 in
set_option maxHeartbeats 2000000 in
theorem cloD56 (x : Dk) (b : Nat) (B : Bool) (w : World) (hb : w.cell? ⟨b, 0, none⟩ = some (.func (.func 48) #[] #[]))
    (hK : ∀ W, Below w.heap.size w W → Calls Try.prog 48 #[.agg #[.string x.name, x.rv]] W fun e W' => e = .returned (.bool B) ∧ Below W.heap.size W W') :
    Calls Try.prog 82 #[.agg #[.string x.name, x.rv], .pointer (some ⟨b, 0, none⟩)] w fun e w' => e = .returned (.bool (!B)) ∧ Below w.heap.size w w' := by
  have hlt : b < w.heap.size := cell_ltF hb
  obtain ⟨x0, x1, x2⟩ := x
  dsimp only at *
  go_enter Try.func82, Try.ntmps82
  go_wp2_with (go_at_call 48; (with_reducible refine (hK _ bel1).mono ?_); rintro e w' ⟨rfl, hb2⟩)
  go_ret
  exact ⟨rfl, belT bel1 hb2⟩
set_option maxRecDepth 100000 in
set_option maxHeartbeats 2000000 in
theorem allD56 (L : List Dk) (a : Option Addr) (c : Nat) (p : Dk → Bool) (w : World) (hL : L = [] ∨ ∃ g o, a = some ⟨g, o, none⟩ ∧ g < w.heap.size ∧ ∀ (i : Nat) (h : i < L.length) (j : Nat) (u : Value), (Dk.cs L[i])[j]? = some u → w.cell? ⟨g, o + i * 2 + j, none⟩ = some u) (hl : L.length ≤ 3518437208781)
    (hK : ∀ W, Below w.heap.size w W → ∀ (i : Nat) (h : i < L.length), Calls Try.prog 48 #[.agg #[.string L[i].name, L[i].rv]] W fun e W' => e = .returned (.bool (p L[i])) ∧ Below W.heap.size W W') :
    Calls Try.prog 47 #[.slice a L.length c, .func (.func 48) #[] #[]] w fun e w' => e = .returned (.bool (L.all p)) ∧ Below w.heap.size w w' := by
  have hmf : ∀ (fn : Fn) (first cap : Array Value) (w : World), (Instr.makeFunc fn first cap).run Try.prog w = .ok (.func fn first cap) w := fun _ _ _ _ => rfl
  have hc := cntD L a c w.heap.size p (w.alloc (.cells #[.func (.func 48) #[] #[]] 96)) (hL.imp id (fun ⟨g, o, e1, e2, e3⟩ => ⟨g, o, e1, by simp; omega, fun i h j u hu => (bel1.cell (p := ⟨g, _, none⟩) e2).trans (e3 i h j u hu)⟩)) hl (by
    intro W hW i hi
    refine cloD56 L[i] w.heap.size (p L[i]) W ?_ (fun W2 hW2 => hK W2 (belT (belT bel1 hW) hW2) i hi)
    rw [hW.cell (p := ⟨w.heap.size, 0, none⟩) (by simp)]
    exact (Has.new w #[_] 96 rfl).2.1 0)
  generalize L.all p = R at *
  clear hL hK
  go_enter Try.func47, Try.ntmps47
  go_wp2_with (go_at_call 81; (with_reducible refine hc.mono ?_); rintro e w' ⟨rfl, hb2⟩)
  go_ret
  exact ⟨by simp, belT bel1 hb2⟩
set_option maxRecDepth 100000 in
set_option maxHeartbeats 2000000 in
theorem cloD57 (x : Dk) (b : Nat) (B : Bool) (w : World) (hb : w.cell? ⟨b, 0, none⟩ = some (.func (.func 49) #[] #[]))
    (hK : ∀ W, Below w.heap.size w W → Calls Try.prog 49 #[.agg #[.string x.name, x.rv]] W fun e W' => e = .returned (.bool B) ∧ Below W.heap.size W W') :
    Calls Try.prog 82 #[.agg #[.string x.name, x.rv], .pointer (some ⟨b, 0, none⟩)] w fun e w' => e = .returned (.bool (!B)) ∧ Below w.heap.size w w' := by
  have hlt : b < w.heap.size := cell_ltF hb
  obtain ⟨x0, x1, x2⟩ := x
  dsimp only at *
  go_enter Try.func82, Try.ntmps82
  go_wp2_with (go_at_call 49; (with_reducible refine (hK _ bel1).mono ?_); rintro e w' ⟨rfl, hb2⟩)
  go_ret
  exact ⟨rfl, belT bel1 hb2⟩
set_option maxRecDepth 100000 in
set_option maxHeartbeats 2000000 in
theorem allD57 (L : List Dk) (a : Option Addr) (c : Nat) (p : Dk → Bool) (w : World) (hL : L = [] ∨ ∃ g o, a = some ⟨g, o, none⟩ ∧ g < w.heap.size ∧ ∀ (i : Nat) (h : i < L.length) (j : Nat) (u : Value), (Dk.cs L[i])[j]? = some u → w.cell? ⟨g, o + i * 2 + j, none⟩ = some u) (hl : L.length ≤ 3518437208781)
    (hK : ∀ W, Below w.heap.size w W → ∀ (i : Nat) (h : i < L.length), Calls Try.prog 49 #[.agg #[.string L[i].name, L[i].rv]] W fun e W' => e = .returned (.bool (p L[i])) ∧ Below W.heap.size W W') :
    Calls Try.prog 47 #[.slice a L.length c, .func (.func 49) #[] #[]] w fun e w' => e = .returned (.bool (L.all p)) ∧ Below w.heap.size w w' := by
  have hmf : ∀ (fn : Fn) (first cap : Array Value) (w : World), (Instr.makeFunc fn first cap).run Try.prog w = .ok (.func fn first cap) w := fun _ _ _ _ => rfl
  have hc := cntD L a c w.heap.size p (w.alloc (.cells #[.func (.func 49) #[] #[]] 96)) (hL.imp id (fun ⟨g, o, e1, e2, e3⟩ => ⟨g, o, e1, by simp; omega, fun i h j u hu => (bel1.cell (p := ⟨g, _, none⟩) e2).trans (e3 i h j u hu)⟩)) hl (by
    intro W hW i hi
    refine cloD57 L[i] w.heap.size (p L[i]) W ?_ (fun W2 hW2 => hK W2 (belT (belT bel1 hW) hW2) i hi)
    rw [hW.cell (p := ⟨w.heap.size, 0, none⟩) (by simp)]
    exact (Has.new w #[_] 96 rfl).2.1 0)
  generalize L.all p = R at *
  clear hL hK
  go_enter Try.func47, Try.ntmps47
  go_wp2_with (go_at_call 81; (with_reducible refine hc.mono ?_); rintro e w' ⟨rfl, hb2⟩)
  go_ret
  exact ⟨by simp, belT bel1 hb2⟩
set_option maxRecDepth 100000 in
set_option maxHeartbeats 2000000 in
theorem cloD58 (x : Dk) (b : Nat) (B : Bool) (w : World) (hb : w.cell? ⟨b, 0, none⟩ = some (.func (.func 50) #[] #[]))
    (hK : ∀ W, Below w.heap.size w W → Calls Try.prog 50 #[.agg #[.string x.name, x.rv]] W fun e W' => e = .returned (.bool B) ∧ Below W.heap.size W W') :
    Calls Try.prog 82 #[.agg #[.string x.name, x.rv], .pointer (some ⟨b, 0, none⟩)] w fun e w' => e = .returned (.bool (!B)) ∧ Below w.heap.size w w' := by
  have hlt : b < w.heap.size := cell_ltF hb
  obtain ⟨x0, x1, x2⟩ := x
  dsimp only at *
  go_enter Try.func82, Try.ntmps82
  go_wp2_with (go_at_call 50; (with_reducible refine (hK _ bel1).mono ?_); rintro e w' ⟨rfl, hb2⟩)
  go_ret
  exact ⟨rfl, belT bel1 hb2⟩
set_option maxRecDepth 100000 in
set_option maxHeartbeats 2000000 in
theorem allD58 (L : List Dk) (a : Option Addr) (c : Nat) (p : Dk → Bool) (w : World) (hL : L = [] ∨ ∃ g o, a = some ⟨g, o, none⟩ ∧ g < w.heap.size ∧ ∀ (i : Nat) (h : i < L.length) (j : Nat) (u : Value), (Dk.cs L[i])[j]? = some u → w.cell? ⟨g, o + i * 2 + j, none⟩ = some u) (hl : L.length ≤ 3518437208781)
    (hK : ∀ W, Below w.heap.size w W → ∀ (i : Nat) (h : i < L.length), Calls Try.prog 50 #[.agg #[.string L[i].name, L[i].rv]] W fun e W' => e = .returned (.bool (p L[i])) ∧ Below W.heap.size W W') :
    Calls Try.prog 47 #[.slice a L.length c, .func (.func 50) #[] #[]] w fun e w' => e = .returned (.bool (L.all p)) ∧ Below w.heap.size w w' := by
  have hmf : ∀ (fn : Fn) (first cap : Array Value) (w : World), (Instr.makeFunc fn first cap).run Try.prog w = .ok (.func fn first cap) w := fun _ _ _ _ => rfl
  have hc := cntD L a c w.heap.size p (w.alloc (.cells #[.func (.func 50) #[] #[]] 96)) (hL.imp id (fun ⟨g, o, e1, e2, e3⟩ => ⟨g, o, e1, by simp; omega, fun i h j u hu => (bel1.cell (p := ⟨g, _, none⟩) e2).trans (e3 i h j u hu)⟩)) hl (by
    intro W hW i hi
    refine cloD58 L[i] w.heap.size (p L[i]) W ?_ (fun W2 hW2 => hK W2 (belT (belT bel1 hW) hW2) i hi)
    rw [hW.cell (p := ⟨w.heap.size, 0, none⟩) (by simp)]
    exact (Has.new w #[_] 96 rfl).2.1 0)
  generalize L.all p = R at *
  clear hL hK
  go_enter Try.func47, Try.ntmps47
  go_wp2_with (go_at_call 81; (with_reducible refine hc.mono ?_); rintro e w' ⟨rfl, hb2⟩)
  go_ret
  exact ⟨by simp, belT bel1 hb2⟩
set_option maxRecDepth 100000 in
set_option maxHeartbeats 2000000 in
theorem cloD63 (x : Dk) (b : Nat) (B : Bool) (w : World) (hb : w.cell? ⟨b, 0, none⟩ = some (.func (.func 55) #[] #[]))
    (hK : ∀ W, Below w.heap.size w W → Calls Try.prog 55 #[.agg #[.string x.name, x.rv]] W fun e W' => e = .returned (.bool B) ∧ Below W.heap.size W W') :
    Calls Try.prog 82 #[.agg #[.string x.name, x.rv], .pointer (some ⟨b, 0, none⟩)] w fun e w' => e = .returned (.bool (!B)) ∧ Below w.heap.size w w' := by
  have hlt : b < w.heap.size := cell_ltF hb
  obtain ⟨x0, x1, x2⟩ := x
  dsimp only at *
  go_enter Try.func82, Try.ntmps82
  go_wp2_with (go_at_call 55; (with_reducible refine (hK _ bel1).mono ?_); rintro e w' ⟨rfl, hb2⟩)
  go_ret
  exact ⟨rfl, belT bel1 hb2⟩
set_option maxRecDepth 100000 in
set_option maxHeartbeats 2000000 in
theorem allD63 (L : List Dk) (a : Option Addr) (c : Nat) (p : Dk → Bool) (w : World) (hL : L = [] ∨ ∃ g o, a = some ⟨g, o, none⟩ ∧ g < w.heap.size ∧ ∀ (i : Nat) (h : i < L.length) (j : Nat) (u : Value), (Dk.cs L[i])[j]? = some u → w.cell? ⟨g, o + i * 2 + j, none⟩ = some u) (hl : L.length ≤ 3518437208781)
    (hK : ∀ W, Below w.heap.size w W → ∀ (i : Nat) (h : i < L.length), Calls Try.prog 55 #[.agg #[.string L[i].name, L[i].rv]] W fun e W' => e = .returned (.bool (p L[i])) ∧ Below W.heap.size W W') :
    Calls Try.prog 47 #[.slice a L.length c, .func (.func 55) #[] #[]] w fun e w' => e = .returned (.bool (L.all p)) ∧ Below w.heap.size w w' := by
  have hmf : ∀ (fn : Fn) (first cap : Array Value) (w : World), (Instr.makeFunc fn first cap).run Try.prog w = .ok (.func fn first cap) w := fun _ _ _ _ => rfl
  have hc := cntD L a c w.heap.size p (w.alloc (.cells #[.func (.func 55) #[] #[]] 96)) (hL.imp id (fun ⟨g, o, e1, e2, e3⟩ => ⟨g, o, e1, by simp; omega, fun i h j u hu => (bel1.cell (p := ⟨g, _, none⟩) e2).trans (e3 i h j u hu)⟩)) hl (by
    intro W hW i hi
    refine cloD63 L[i] w.heap.size (p L[i]) W ?_ (fun W2 hW2 => hK W2 (belT (belT bel1 hW) hW2) i hi)
    rw [hW.cell (p := ⟨w.heap.size, 0, none⟩) (by simp)]
    exact (Has.new w #[_] 96 rfl).2.1 0)
  generalize L.all p = R at *
  clear hL hK
  go_enter Try.func47, Try.ntmps47
  go_wp2_with (go_at_call 81; (with_reducible refine hc.mono ?_); rintro e w' ⟨rfl, hb2⟩)
  go_ret
  exact ⟨by simp, belT bel1 hb2⟩
set_option maxRecDepth 100000 in
set_option maxHeartbeats 2000000 in
theorem cloD79 (x : Dk) (b : Nat) (B : Bool) (w : World) (hb : w.cell? ⟨b, 0, none⟩ = some (.func (.func 71) #[] #[]))
    (hK : ∀ W, Below w.heap.size w W → Calls Try.prog 71 #[.agg #[.string x.name, x.rv]] W fun e W' => e = .returned (.bool B) ∧ Below W.heap.size W W') :
    Calls Try.prog 82 #[.agg #[.string x.name, x.rv], .pointer (some ⟨b, 0, none⟩)] w fun e w' => e = .returned (.bool (!B)) ∧ Below w.heap.size w w' := by
  have hlt : b < w.heap.size := cell_ltF hb
  obtain ⟨x0, x1, x2⟩ := x
  dsimp only at *
  go_enter Try.func82, Try.ntmps82
  go_wp2_with (go_at_call 71; (with_reducible refine (hK _ bel1).mono ?_); rintro e w' ⟨rfl, hb2⟩)
  go_ret
  exact ⟨rfl, belT bel1 hb2⟩
set_option maxRecDepth 100000 in
set_option maxHeartbeats 2000000 in
theorem allD79 (L : List Dk) (a : Option Addr) (c : Nat) (p : Dk → Bool) (w : World) (hL : L = [] ∨ ∃ g o, a = some ⟨g, o, none⟩ ∧ g < w.heap.size ∧ ∀ (i : Nat) (h : i < L.length) (j : Nat) (u : Value), (Dk.cs L[i])[j]? = some u → w.cell? ⟨g, o + i * 2 + j, none⟩ = some u) (hl : L.length ≤ 3518437208781)
    (hK : ∀ W, Below w.heap.size w W → ∀ (i : Nat) (h : i < L.length), Calls Try.prog 71 #[.agg #[.string L[i].name, L[i].rv]] W fun e W' => e = .returned (.bool (p L[i])) ∧ Below W.heap.size W W') :
    Calls Try.prog 47 #[.slice a L.length c, .func (.func 71) #[] #[]] w fun e w' => e = .returned (.bool (L.all p)) ∧ Below w.heap.size w w' := by
  have hmf : ∀ (fn : Fn) (first cap : Array Value) (w : World), (Instr.makeFunc fn first cap).run Try.prog w = .ok (.func fn first cap) w := fun _ _ _ _ => rfl
  have hc := cntD L a c w.heap.size p (w.alloc (.cells #[.func (.func 71) #[] #[]] 96)) (hL.imp id (fun ⟨g, o, e1, e2, e3⟩ => ⟨g, o, e1, by simp; omega, fun i h j u hu => (bel1.cell (p := ⟨g, _, none⟩) e2).trans (e3 i h j u hu)⟩)) hl (by
    intro W hW i hi
    refine cloD79 L[i] w.heap.size (p L[i]) W ?_ (fun W2 hW2 => hK W2 (belT (belT bel1 hW) hW2) i hi)
    rw [hW.cell (p := ⟨w.heap.size, 0, none⟩) (by simp)]
    exact (Has.new w #[_] 96 rfl).2.1 0)
  generalize L.all p = R at *
  clear hL hK
  go_enter Try.func47, Try.ntmps47
  go_wp2_with (go_at_call 81; (with_reducible refine hc.mono ?_); rintro e w' ⟨rfl, hb2⟩)
  go_ret
  exact ⟨by simp, belT bel1 hb2⟩
set_option maxRecDepth 100000 in
set_option maxHeartbeats 2000000 in
theorem idxR (L : List Rw) (a : Option Addr) (c b : Nat) (p : Rw → Bool) (w : World) (hL : L = [] ∨ ∃ g o, a = some ⟨g, o, none⟩ ∧ g < w.heap.size ∧ ∀ (i : Nat) (h : i < L.length) (j : Nat) (u : Value), (Rw.cs L[i])[j]? = some u → w.cell? ⟨g, o + i * 2 + j, none⟩ = some u) (hl : L.length ≤ 8796093021952)
    (hC : ∀ W, Below w.heap.size w W → ∀ (i : Nat) (h : i < L.length), Calls Try.prog 84 #[.agg #[.int .i64 L[i].m, .int .i64 L[i].s], .pointer (some ⟨b, 0, none⟩)] W fun e W' => e = .returned (.bool (!p L[i])) ∧ Below W.heap.size W W') :
    Calls Try.prog 95 #[.slice a L.length c, .func (.func 84) #[] #[.pointer (some ⟨b, 0, none⟩)]] w fun e w' => IxP e (L.all p) ∧ Below w.heap.size w w' := by
  have hC' : Hid (∀ W, Below w.heap.size w W → ∀ (i : Nat) (h : i < L.length), Calls Try.prog 84 #[.agg #[.int .i64 L[i].m, .int .i64 L[i].s], .pointer (some ⟨b, 0, none⟩)] W fun e W' => e = .returned (.bool (!p L[i])) ∧ Below W.heap.size W W') := hC
  clear hC
  go_enter Try.func95, Try.ntmps95
  go_wp2
  go_loopg [5, 8] L.length (fun gk s5 s8 wr => ∃ k : Nat, k + gk = L.length ∧ s8 = .int .i64 (k : Int) ∧ Hid ((L.drop k).all p = L.all p) ∧ Below w.heap.size w wr)
  case atStart => exact ⟨0, by omega, rfl, by show _ = _; simp, Below.refl _ _⟩
  case round =>
    obtain ⟨k, hk, rfl, hA, hb⟩ := hrel
    by_cases hlt : k < L.length
    · obtain ⟨g, o, rfl, hg, P⟩ := hL.resolve_left (by intro e; rw [e] at hlt; simp at hlt)
      have p0 := (hb.cell (p := ⟨g, _, none⟩) hg).trans (P k hlt 0 _ rfl)
      have p1 := (hb.cell (p := ⟨g, _, none⟩) hg).trans (P k hlt 1 _ rfl)
      simp only [Nat.add_zero] at p0
      have t1 : (k : Int) < (L.length : Int) := by omega
      have t0 : (0 : Int) ≤ (k : Int) := by omega
      have hc := hC'.out wr hb k hlt
      have hs := all_drop p L k hlt
      have hE : Hid (L.all p = (p L[k] && (L.drop (k + 1)).all p)) := by show _ = _; rw [← hA.out, hs]
      clear hs hA P hL
      cases hp : p L[k] with
      | true =>
        rw [hp] at hc
        have hE2 : Hid ((L.drop (k + 1)).all p = L.all p) := by show _ = _; rw [hE.out, hp]; rfl
        clear hE hp
        go_wp2_with (go_at_call 84; (with_reducible refine hc.mono ?_); rintro e w' ⟨rfl, hb2⟩)
        go_roundg (gk - 1)
        case measure => go_light; omega
        case rel => exact ⟨k + 1, by omega, by go_num, hE2, belT hb hb2⟩
      | false =>
        rw [hp] at hc
        have hE2 : Hid (L.all p = false) := by show _ = _; rw [hE.out, hp]; rfl
        clear hE hp
        go_wp2_with (go_at_call 84; (with_reducible refine hc.mono ?_); rintro e w' ⟨rfl, hb2⟩)
        go_ret
        exact ⟨⟨_, rfl, by rw [hE2.out]; simp⟩, belT hb hb2⟩
    · obtain rfl : k = L.length := by omega
      have t1 : ¬ (L.length : Int) < (L.length : Int) := by omega
      have hE2 : Hid (L.all p = true) := by show _ = _; rw [← hA.out]; simp
      clear hL
      go_wp2
      go_ret
      exact ⟨⟨_, rfl, by rw [hE2.out]; rfl⟩, hb⟩
set_option maxRecDepth 100000 in
set_option maxHeartbeats 2000000 in
theorem cntR (L : List Rw) (a : Option Addr) (c b : Nat) (p : Rw → Bool) (w : World) (hL : L = [] ∨ ∃ g o, a = some ⟨g, o, none⟩ ∧ g < w.heap.size ∧ ∀ (i : Nat) (h : i < L.length) (j : Nat) (u : Value), (Rw.cs L[i])[j]? = some u → w.cell? ⟨g, o + i * 2 + j, none⟩ = some u) (hl : L.length ≤ 8796093021952)
    (hC : ∀ W, Below w.heap.size w W → ∀ (i : Nat) (h : i < L.length), Calls Try.prog 84 #[.agg #[.int .i64 L[i].m, .int .i64 L[i].s], .pointer (some ⟨b, 0, none⟩)] W fun e W' => e = .returned (.bool (!p L[i])) ∧ Below W.heap.size W W') :
    Calls Try.prog 83 #[.slice a L.length c, .func (.func 84) #[] #[.pointer (some ⟨b, 0, none⟩)]] w fun e w' => e = .returned (.bool (!L.all p)) ∧ Below w.heap.size w w' := by
  have hc := idxR L a c b p w hL hl hC
  generalize L.all p = R at *
  clear hL hC
  go_enter Try.func83, Try.ntmps83
  go_wp2_with (go_at_call 95; (with_reducible refine hc.mono ?_); rintro e w' ⟨⟨z, rfl, hz⟩, hb2⟩)
  go_ret
  exact ⟨rfl, hb2⟩
set_option maxRecDepth 100000 in
set_option maxHeartbeats 2000000 in
theorem cloR65 (x : Rw) (b : Nat) (B : Bool) (w : World) (hb : w.cell? ⟨b, 0, none⟩ = some (.func (.func 57) #[] #[]))
    (hK : ∀ W, Below w.heap.size w W → Calls Try.prog 57 #[.agg #[.int .i64 x.m, .int .i64 x.s]] W fun e W' => e = .returned (.bool B) ∧ Below W.heap.size W W') :
    Calls Try.prog 84 #[.agg #[.int .i64 x.m, .int .i64 x.s], .pointer (some ⟨b, 0, none⟩)] w fun e w' => e = .returned (.bool (!B)) ∧ Below w.heap.size w w' := by
  have hlt : b < w.heap.size := cell_ltF hb
  obtain ⟨x0, x1⟩ := x
  dsimp only at *
  go_enter Try.func84, Try.ntmps84
  go_wp2_with (go_at_call 57; (with_reducible refine (hK _ bel1).mono ?_); rintro e w' ⟨rfl, hb2⟩)
  go_ret
  exact ⟨rfl, belT bel1 hb2⟩
set_option maxRecDepth 100000 in
set_option maxHeartbeats 2000000 in
theorem allR65 (L : List Rw) (a : Option Addr) (c : Nat) (p : Rw → Bool) (w : World) (hL : L = [] ∨ ∃ g o, a = some ⟨g, o, none⟩ ∧ g < w.heap.size ∧ ∀ (i : Nat) (h : i < L.length) (j : Nat) (u : Value), (Rw.cs L[i])[j]? = some u → w.cell? ⟨g, o + i * 2 + j, none⟩ = some u) (hl : L.length ≤ 8796093021952)
    (hK : ∀ W, Below w.heap.size w W → ∀ (i : Nat) (h : i < L.length), Calls Try.prog 57 #[.agg #[.int .i64 L[i].m, .int .i64 L[i].s]] W fun e W' => e = .returned (.bool (p L[i])) ∧ Below W.heap.size W W') :
    Calls Try.prog 56 #[.slice a L.length c, .func (.func 57) #[] #[]] w fun e w' => e = .returned (.bool (L.all p)) ∧ Below w.heap.size w w' := by
  have hmf : ∀ (fn : Fn) (first cap : Array Value) (w : World), (Instr.makeFunc fn first cap).run Try.prog w = .ok (.func fn first cap) w := fun _ _ _ _ => rfl
  have hc := cntR L a c w.heap.size p (w.alloc (.cells #[.func (.func 57) #[] #[]] 102)) (hL.imp id (fun ⟨g, o, e1, e2, e3⟩ => ⟨g, o, e1, by simp; omega, fun i h j u hu => (bel1.cell (p := ⟨g, _, none⟩) e2).trans (e3 i h j u hu)⟩)) hl (by
    intro W hW i hi
    refine cloR65 L[i] w.heap.size (p L[i]) W ?_ (fun W2 hW2 => hK W2 (belT (belT bel1 hW) hW2) i hi)
    rw [hW.cell (p := ⟨w.heap.size, 0, none⟩) (by simp)]
    exact (Has.new w #[_] 102 rfl).2.1 0)
  generalize L.all p = R at *
  clear hL hK
  go_enter Try.func56, Try.ntmps56
  go_wp2_with (go_at_call 83; (with_reducible refine hc.mono ?_); rintro e w' ⟨rfl, hb2⟩)
  go_ret
  exact ⟨by simp, belT bel1 hb2⟩
set_option maxRecDepth 100000 in
set_option maxHeartbeats 2000000 in
theorem idxH (L : List Sh) (a : Option Addr) (c b : Nat) (p : Sh → Bool) (w : World) (hL : L = [] ∨ ∃ g o, a = some ⟨g, o, none⟩ ∧ g < w.heap.size ∧ ∀ (i : Nat) (h : i < L.length) (j : Nat) (u : Value), (Sh.cs L[i])[j]? = some u → w.cell? ⟨g, o + i * 2 + j, none⟩ = some u) (hl : L.length ≤ 8796093021952)
    (hC : ∀ W, Below w.heap.size w W → ∀ (i : Nat) (h : i < L.length), Calls Try.prog 86 #[.agg #[.int .i64 L[i].m, .int .i64 L[i].plus], .pointer (some ⟨b, 0, none⟩)] W fun e W' => e = .returned (.bool (!p L[i])) ∧ Below W.heap.size W W') :
    Calls Try.prog 96 #[.slice a L.length c, .func (.func 86) #[] #[.pointer (some ⟨b, 0, none⟩)]] w fun e w' => IxP e (L.all p) ∧ Below w.heap.size w w' := by
  have hC' : Hid (∀ W, Below w.heap.size w W → ∀ (i : Nat) (h : i < L.length), Calls Try.prog 86 #[.agg #[.int .i64 L[i].m, .int .i64 L[i].plus], .pointer (some ⟨b, 0, none⟩)] W fun e W' => e = .returned (.bool (!p L[i])) ∧ Below W.heap.size W W') := hC
  clear hC
  go_enter Try.func96, Try.ntmps96
  go_wp2
  go_loopg [5, 8] L.length (fun gk s5 s8 wr => ∃ k : Nat, k + gk = L.length ∧ s8 = .int .i64 (k : Int) ∧ Hid ((L.drop k).all p = L.all p) ∧ Below w.heap.size w wr)
  case atStart => exact ⟨0, by omega, rfl, by show _ = _; simp, Below.refl _ _⟩
  case round =>
    obtain ⟨k, hk, rfl, hA, hb⟩ := hrel
    by_cases hlt : k < L.length
    · obtain ⟨g, o, rfl, hg, P⟩ := hL.resolve_left (by intro e; rw [e] at hlt; simp at hlt)
      have p0 := (hb.cell (p := ⟨g, _, none⟩) hg).trans (P k hlt 0 _ rfl)
      have p1 := (hb.cell (p := ⟨g, _, none⟩) hg).trans (P k hlt 1 _ rfl)
      simp only [Nat.add_zero] at p0
      have t1 : (k : Int) < (L.length : Int) := by omega
      have t0 : (0 : Int) ≤ (k : Int) := by omega
      have hc := hC'.out wr hb k hlt
      have hs := all_drop p L k hlt
      have hE : Hid (L.all p = (p L[k] && (L.drop (k + 1)).all p)) := by show _ = _; rw [← hA.out, hs]
      clear hs hA P hL
      cases hp : p L[k] with
      | true =>
        rw [hp] at hc
        have hE2 : Hid ((L.drop (k + 1)).all p = L.all p) := by show _ = _; rw [hE.out, hp]; rfl
        clear hE hp
        go_wp2_with (go_at_call 86; (with_reducible refine hc.mono ?_); rintro e w' ⟨rfl, hb2⟩)
        go_roundg (gk - 1)
        case measure => go_light; omega
        case rel => exact ⟨k + 1, by omega, by go_num, hE2, belT hb hb2⟩
      | false =>
        rw [hp] at hc
        have hE2 : Hid (L.all p = false) := by show _ = _; rw [hE.out, hp]; rfl
        clear hE hp
        go_wp2_with (go_at_call 86; (with_reducible refine hc.mono ?_); rintro e w' ⟨rfl, hb2⟩)
        go_ret
        exact ⟨⟨_, rfl, by rw [hE2.out]; simp⟩, belT hb hb2⟩
    · obtain rfl : k = L.length := by omega
      have t1 : ¬ (L.length : Int) < (L.length : Int) := by omega
      have hE2 : Hid (L.all p = true) := by show _ = _; rw [← hA.out]; simp
      clear hL
      go_wp2
      go_ret
      exact ⟨⟨_, rfl, by rw [hE2.out]; rfl⟩, hb⟩
set_option maxRecDepth 100000 in
set_option maxHeartbeats 2000000 in
theorem cntH (L : List Sh) (a : Option Addr) (c b : Nat) (p : Sh → Bool) (w : World) (hL : L = [] ∨ ∃ g o, a = some ⟨g, o, none⟩ ∧ g < w.heap.size ∧ ∀ (i : Nat) (h : i < L.length) (j : Nat) (u : Value), (Sh.cs L[i])[j]? = some u → w.cell? ⟨g, o + i * 2 + j, none⟩ = some u) (hl : L.length ≤ 8796093021952)
    (hC : ∀ W, Below w.heap.size w W → ∀ (i : Nat) (h : i < L.length), Calls Try.prog 86 #[.agg #[.int .i64 L[i].m, .int .i64 L[i].plus], .pointer (some ⟨b, 0, none⟩)] W fun e W' => e = .returned (.bool (!p L[i])) ∧ Below W.heap.size W W') :
    Calls Try.prog 85 #[.slice a L.length c, .func (.func 86) #[] #[.pointer (some ⟨b, 0, none⟩)]] w fun e w' => e = .returned (.bool (!L.all p)) ∧ Below w.heap.size w w' := by
  have hc := idxH L a c b p w hL hl hC
  generalize L.all p = R at *
  clear hL hC
  go_enter Try.func85, Try.ntmps85
  go_wp2_with (go_at_call 96; (with_reducible refine hc.mono ?_); rintro e w' ⟨⟨z, rfl, hz⟩, hb2⟩)
  go_ret
  exact ⟨rfl, hb2⟩
set_option maxRecDepth 100000 in
set_option maxHeartbeats 2000000 in
theorem cloH67 (x : Sh) (b : Nat) (B : Bool) (w : World) (hb : w.cell? ⟨b, 0, none⟩ = some (.func (.func 59) #[] #[]))
    (hK : ∀ W, Below w.heap.size w W → Calls Try.prog 59 #[.agg #[.int .i64 x.m, .int .i64 x.plus]] W fun e W' => e = .returned (.bool B) ∧ Below W.heap.size W W') :
    Calls Try.prog 86 #[.agg #[.int .i64 x.m, .int .i64 x.plus], .pointer (some ⟨b, 0, none⟩)] w fun e w' => e = .returned (.bool (!B)) ∧ Below w.heap.size w w' := by
  have hlt : b < w.heap.size := cell_ltF hb
  obtain ⟨x0, x1⟩ := x
  dsimp only at *
  go_enter Try.func86, Try.ntmps86
  go_wp2_with (go_at_call 59; (with_reducible refine (hK _ bel1).mono ?_); rintro e w' ⟨rfl, hb2⟩)
  go_ret
  exact ⟨rfl, belT bel1 hb2⟩
set_option maxRecDepth 100000 in
set_option maxHeartbeats 2000000 in
theorem allH67 (L : List Sh) (a : Option Addr) (c : Nat) (p : Sh → Bool) (w : World) (hL : L = [] ∨ ∃ g o, a = some ⟨g, o, none⟩ ∧ g < w.heap.size ∧ ∀ (i : Nat) (h : i < L.length) (j : Nat) (u : Value), (Sh.cs L[i])[j]? = some u → w.cell? ⟨g, o + i * 2 + j, none⟩ = some u) (hl : L.length ≤ 8796093021952)
    (hK : ∀ W, Below w.heap.size w W → ∀ (i : Nat) (h : i < L.length), Calls Try.prog 59 #[.agg #[.int .i64 L[i].m, .int .i64 L[i].plus]] W fun e W' => e = .returned (.bool (p L[i])) ∧ Below W.heap.size W W') :
    Calls Try.prog 58 #[.slice a L.length c, .func (.func 59) #[] #[]] w fun e w' => e = .returned (.bool (L.all p)) ∧ Below w.heap.size w w' := by
  have hmf : ∀ (fn : Fn) (first cap : Array Value) (w : World), (Instr.makeFunc fn first cap).run Try.prog w = .ok (.func fn first cap) w := fun _ _ _ _ => rfl
  have hc := cntH L a c w.heap.size p (w.alloc (.cells #[.func (.func 59) #[] #[]] 104)) (hL.imp id (fun ⟨g, o, e1, e2, e3⟩ => ⟨g, o, e1, by simp; omega, fun i h j u hu => (bel1.cell (p := ⟨g, _, none⟩) e2).trans (e3 i h j u hu)⟩)) hl (by
    intro W hW i hi
    refine cloH67 L[i] w.heap.size (p L[i]) W ?_ (fun W2 hW2 => hK W2 (belT (belT bel1 hW) hW2) i hi)
    rw [hW.cell (p := ⟨w.heap.size, 0, none⟩) (by simp)]
    exact (Has.new w #[_] 104 rfl).2.1 0)
  generalize L.all p = R at *
  clear hL hK
  go_enter Try.func58, Try.ntmps58
  go_wp2_with (go_at_call 85; (with_reducible refine hc.mono ?_); rintro e w' ⟨rfl, hb2⟩)
  go_ret
  exact ⟨by simp, belT bel1 hb2⟩
set_option maxRecDepth 100000 in
set_option maxHeartbeats 2000000 in
theorem cloH74 (x : Sh) (b : Nat) (B : Bool) (w : World) (hb : w.cell? ⟨b, 0, none⟩ = some (.func (.func 66) #[] #[]))
    (hK : ∀ W, Below w.heap.size w W → Calls Try.prog 66 #[.agg #[.int .i64 x.m, .int .i64 x.plus]] W fun e W' => e = .returned (.bool B) ∧ Below W.heap.size W W') :
    Calls Try.prog 86 #[.agg #[.int .i64 x.m, .int .i64 x.plus], .pointer (some ⟨b, 0, none⟩)] w fun e w' => e = .returned (.bool (!B)) ∧ Below w.heap.size w w' := by
  have hlt : b < w.heap.size := cell_ltF hb
  obtain ⟨x0, x1⟩ := x
  dsimp only at *
  go_enter Try.func86, Try.ntmps86
  go_wp2_with (go_at_call 66; (with_reducible refine (hK _ bel1).mono ?_); rintro e w' ⟨rfl, hb2⟩)
  go_ret
  exact ⟨rfl, belT bel1 hb2⟩
set_option maxRecDepth 100000 in
set_option maxHeartbeats 2000000 in
theorem allH74 (L : List Sh) (a : Option Addr) (c : Nat) (p : Sh → Bool) (w : World) (hL : L = [] ∨ ∃ g o, a = some ⟨g, o, none⟩ ∧ g < w.heap.size ∧ ∀ (i : Nat) (h : i < L.length) (j : Nat) (u : Value), (Sh.cs L[i])[j]? = some u → w.cell? ⟨g, o + i * 2 + j, none⟩ = some u) (hl : L.length ≤ 8796093021952)
    (hK : ∀ W, Below w.heap.size w W → ∀ (i : Nat) (h : i < L.length), Calls Try.prog 66 #[.agg #[.int .i64 L[i].m, .int .i64 L[i].plus]] W fun e W' => e = .returned (.bool (p L[i])) ∧ Below W.heap.size W W') :
    Calls Try.prog 58 #[.slice a L.length c, .func (.func 66) #[] #[]] w fun e w' => e = .returned (.bool (L.all p)) ∧ Below w.heap.size w w' := by
  have hmf : ∀ (fn : Fn) (first cap : Array Value) (w : World), (Instr.makeFunc fn first cap).run Try.prog w = .ok (.func fn first cap) w := fun _ _ _ _ => rfl
  have hc := cntH L a c w.heap.size p (w.alloc (.cells #[.func (.func 66) #[] #[]] 104)) (hL.imp id (fun ⟨g, o, e1, e2, e3⟩ => ⟨g, o, e1, by simp; omega, fun i h j u hu => (bel1.cell (p := ⟨g, _, none⟩) e2).trans (e3 i h j u hu)⟩)) hl (by
    intro W hW i hi
    refine cloH74 L[i] w.heap.size (p L[i]) W ?_ (fun W2 hW2 => hK W2 (belT (belT bel1 hW) hW2) i hi)
    rw [hW.cell (p := ⟨w.heap.size, 0, none⟩) (by simp)]
    exact (Has.new w #[_] 104 rfl).2.1 0)
  generalize L.all p = R at *
  clear hL hK
  go_enter Try.func58, Try.ntmps58
  go_wp2_with (go_at_call 85; (with_reducible refine hc.mono ?_); rintro e w' ⟨rfl, hb2⟩)
  go_ret
  exact ⟨by simp, belT bel1 hb2⟩
set_option maxRecDepth 100000 in
set_option maxHeartbeats 2000000 in
theorem idxS (L : List Sn) (a : Option Addr) (c b : Nat) (p : Sn → Bool) (w : World) (hL : L = [] ∨ ∃ g o, a = some ⟨g, o, none⟩ ∧ g < w.heap.size ∧ ∀ (i : Nat) (h : i < L.length) (j : Nat) (u : Value), (Sn.cs L[i])[j]? = some u → w.cell? ⟨g, o + i * 9 + j, none⟩ = some u) (hl : L.length ≤ 1954687338211)
    (hC : ∀ W, Below w.heap.size w W → ∀ (i : Nat) (h : i < L.length), Calls Try.prog 88 #[.agg #[.int .i64 L[i].fr, .int .i64 L[i].till, .int .i64 L[i].w0, .int .i64 L[i].w1, .int .i64 L[i].w2, .int .i64 L[i].w3, .int .i64 L[i].w4, .int .i64 L[i].w5, .int .i64 L[i].w6], .pointer (some ⟨b, 0, none⟩)] W fun e W' => e = .returned (.bool (!p L[i])) ∧ Below W.heap.size W W') :
    Calls Try.prog 97 #[.slice a L.length c, .func (.func 88) #[] #[.pointer (some ⟨b, 0, none⟩)]] w fun e w' => IxP e (L.all p) ∧ Below w.heap.size w w' := by
  have hC' : Hid (∀ W, Below w.heap.size w W → ∀ (i : Nat) (h : i < L.length), Calls Try.prog 88 #[.agg #[.int .i64 L[i].fr, .int .i64 L[i].till, .int .i64 L[i].w0, .int .i64 L[i].w1, .int .i64 L[i].w2, .int .i64 L[i].w3, .int .i64 L[i].w4, .int .i64 L[i].w5, .int .i64 L[i].w6], .pointer (some ⟨b, 0, none⟩)] W fun e W' => e = .returned (.bool (!p L[i])) ∧ Below W.heap.size W W') := hC
  clear hC
  go_enter Try.func97, Try.ntmps97
  go_wp2
  go_loopg [5, 8] L.length (fun gk s5 s8 wr => ∃ k : Nat, k + gk = L.length ∧ s8 = .int .i64 (k : Int) ∧ Hid ((L.drop k).all p = L.all p) ∧ Below w.heap.size w wr)
  case atStart => exact ⟨0, by omega, rfl, by show _ = _; simp, Below.refl _ _⟩
  case round =>
    obtain ⟨k, hk, rfl, hA, hb⟩ := hrel
    by_cases hlt : k < L.length
    · obtain ⟨g, o, rfl, hg, P⟩ := hL.resolve_left (by intro e; rw [e] at hlt; simp at hlt)
      have p0 := (hb.cell (p := ⟨g, _, none⟩) hg).trans (P k hlt 0 _ rfl)
      have p1 := (hb.cell (p := ⟨g, _, none⟩) hg).trans (P k hlt 1 _ rfl)
      have p2 := (hb.cell (p := ⟨g, _, none⟩) hg).trans (P k hlt 2 _ rfl)
      have p3 := (hb.cell (p := ⟨g, _, none⟩) hg).trans (P k hlt 3 _ rfl)
      have p4 := (hb.cell (p := ⟨g, _, none⟩) hg).trans (P k hlt 4 _ rfl)
      have p5 := (hb.cell (p := ⟨g, _, none⟩) hg).trans (P k hlt 5 _ rfl)
      have p6 := (hb.cell (p := ⟨g, _, none⟩) hg).trans (P k hlt 6 _ rfl)
      have p7 := (hb.cell (p := ⟨g, _, none⟩) hg).trans (P k hlt 7 _ rfl)
      have p8 := (hb.cell (p := ⟨g, _, none⟩) hg).trans (P k hlt 8 _ rfl)
      simp only [Nat.add_zero] at p0
      have t1 : (k : Int) < (L.length : Int) := by omega
      have t0 : (0 : Int) ≤ (k : Int) := by omega
      have hc := hC'.out wr hb k hlt
      have hs := all_drop p L k hlt
      have hE : Hid (L.all p = (p L[k] && (L.drop (k + 1)).all p)) := by show _ = _; rw [← hA.out, hs]
      clear hs hA P hL
      cases hp : p L[k] with
      | true =>
        rw [hp] at hc
        have hE2 : Hid ((L.drop (k + 1)).all p = L.all p) := by show _ = _; rw [hE.out, hp]; rfl
        clear hE hp
        go_wp2_with (go_at_call 88; (with_reducible refine hc.mono ?_); rintro e w' ⟨rfl, hb2⟩)
        go_roundg (gk - 1)
        case measure => go_light; omega
        case rel => exact ⟨k + 1, by omega, by go_num, hE2, belT hb hb2⟩
      | false =>
        rw [hp] at hc
        have hE2 : Hid (L.all p = false) := by show _ = _; rw [hE.out, hp]; rfl
        clear hE hp
        go_wp2_with (go_at_call 88; (with_reducible refine hc.mono ?_); rintro e w' ⟨rfl, hb2⟩)
        go_ret
        exact ⟨⟨_, rfl, by rw [hE2.out]; simp⟩, belT hb hb2⟩
    · obtain rfl : k = L.length := by omega
      have t1 : ¬ (L.length : Int) < (L.length : Int) := by omega
      have hE2 : Hid (L.all p = true) := by show _ = _; rw [← hA.out]; simp
      clear hL
      go_wp2
      go_ret
      exact ⟨⟨_, rfl, by rw [hE2.out]; rfl⟩, hb⟩
set_option maxRecDepth 100000 in
set_option maxHeartbeats 2000000 in
theorem cntS (L : List Sn) (a : Option Addr) (c b : Nat) (p : Sn → Bool) (w : World) (hL : L = [] ∨ ∃ g o, a = some ⟨g, o, none⟩ ∧ g < w.heap.size ∧ ∀ (i : Nat) (h : i < L.length) (j : Nat) (u : Value), (Sn.cs L[i])[j]? = some u → w.cell? ⟨g, o + i * 9 + j, none⟩ = some u) (hl : L.length ≤ 1954687338211)
    (hC : ∀ W, Below w.heap.size w W → ∀ (i : Nat) (h : i < L.length), Calls Try.prog 88 #[.agg #[.int .i64 L[i].fr, .int .i64 L[i].till, .int .i64 L[i].w0, .int .i64 L[i].w1, .int .i64 L[i].w2, .int .i64 L[i].w3, .int .i64 L[i].w4, .int .i64 L[i].w5, .int .i64 L[i].w6], .pointer (some ⟨b, 0, none⟩)] W fun e W' => e = .returned (.bool (!p L[i])) ∧ Below W.heap.size W W') :
    Calls Try.prog 87 #[.slice a L.length c, .func (.func 88) #[] #[.pointer (some ⟨b, 0, none⟩)]] w fun e w' => e = .returned (.bool (!L.all p)) ∧ Below w.heap.size w w' := by
  have hc := idxS L a c b p w hL hl hC
  generalize L.all p = R at *
  clear hL hC
  go_enter Try.func87, Try.ntmps87
  go_wp2_with (go_at_call 97; (with_reducible refine hc.mono ?_); rintro e w' ⟨⟨z, rfl, hz⟩, hb2⟩)
  go_ret
  exact ⟨rfl, hb2⟩
set_option maxRecDepth 100000 in
set_option maxHeartbeats 2000000 in
theorem cloS70 (x : Sn) (b : Nat) (B : Bool) (w : World) (hb : w.cell? ⟨b, 0, none⟩ = some (.func (.func 62) #[] #[]))
    (hK : ∀ W, Below w.heap.size w W → Calls Try.prog 62 #[.agg #[.int .i64 x.fr, .int .i64 x.till, .int .i64 x.w0, .int .i64 x.w1, .int .i64 x.w2, .int .i64 x.w3, .int .i64 x.w4, .int .i64 x.w5, .int .i64 x.w6]] W fun e W' => e = .returned (.bool B) ∧ Below W.heap.size W W') :
    Calls Try.prog 88 #[.agg #[.int .i64 x.fr, .int .i64 x.till, .int .i64 x.w0, .int .i64 x.w1, .int .i64 x.w2, .int .i64 x.w3, .int .i64 x.w4, .int .i64 x.w5, .int .i64 x.w6], .pointer (some ⟨b, 0, none⟩)] w fun e w' => e = .returned (.bool (!B)) ∧ Below w.heap.size w w' := by
  have hlt : b < w.heap.size := cell_ltF hb
  obtain ⟨x0, x1, x2, x3, x4, x5, x6, x7, x8⟩ := x
  dsimp only at *
  go_enter Try.func88, Try.ntmps88
  go_wp2_with (go_at_call 62; (with_reducible refine (hK _ bel1).mono ?_); rintro e w' ⟨rfl, hb2⟩)
  go_ret
  exact ⟨rfl, belT bel1 hb2⟩
set_option maxRecDepth 100000 in
set_option maxHeartbeats 2000000 in
theorem allS70 (L : List Sn) (a : Option Addr) (c : Nat) (p : Sn → Bool) (w : World) (hL : L = [] ∨ ∃ g o, a = some ⟨g, o, none⟩ ∧ g < w.heap.size ∧ ∀ (i : Nat) (h : i < L.length) (j : Nat) (u : Value), (Sn.cs L[i])[j]? = some u → w.cell? ⟨g, o + i * 9 + j, none⟩ = some u) (hl : L.length ≤ 1954687338211)
    (hK : ∀ W, Below w.heap.size w W → ∀ (i : Nat) (h : i < L.length), Calls Try.prog 62 #[.agg #[.int .i64 L[i].fr, .int .i64 L[i].till, .int .i64 L[i].w0, .int .i64 L[i].w1, .int .i64 L[i].w2, .int .i64 L[i].w3, .int .i64 L[i].w4, .int .i64 L[i].w5, .int .i64 L[i].w6]] W fun e W' => e = .returned (.bool (p L[i])) ∧ Below W.heap.size W W') :
    Calls Try.prog 61 #[.slice a L.length c, .func (.func 62) #[] #[]] w fun e w' => e = .returned (.bool (L.all p)) ∧ Below w.heap.size w w' := by
  have hmf : ∀ (fn : Fn) (first cap : Array Value) (w : World), (Instr.makeFunc fn first cap).run Try.prog w = .ok (.func fn first cap) w := fun _ _ _ _ => rfl
  have hc := cntS L a c w.heap.size p (w.alloc (.cells #[.func (.func 62) #[] #[]] 106)) (hL.imp id (fun ⟨g, o, e1, e2, e3⟩ => ⟨g, o, e1, by simp; omega, fun i h j u hu => (bel1.cell (p := ⟨g, _, none⟩) e2).trans (e3 i h j u hu)⟩)) hl (by
    intro W hW i hi
    refine cloS70 L[i] w.heap.size (p L[i]) W ?_ (fun W2 hW2 => hK W2 (belT (belT bel1 hW) hW2) i hi)
    rw [hW.cell (p := ⟨w.heap.size, 0, none⟩) (by simp)]
    exact (Has.new w #[_] 106 rfl).2.1 0)
  generalize L.all p = R at *
  clear hL hK
  go_enter Try.func61, Try.ntmps61
  go_wp2_with (go_at_call 87; (with_reducible refine hc.mono ?_); rintro e w' ⟨rfl, hb2⟩)
  go_ret
  exact ⟨by simp, belT bel1 hb2⟩
set_option maxRecDepth 100000 in
set_option maxHeartbeats 2000000 in
theorem cloS77 (x : Sn) (b q : Nat) (B : Bool) (w : World) (hb : w.cell? ⟨b, 0, none⟩ = some (.func (.func 69) #[] #[.pointer (some ⟨q, 0, none⟩)]))
    (hK : ∀ W, Below w.heap.size w W → Calls Try.prog 69 #[.agg #[.int .i64 x.fr, .int .i64 x.till, .int .i64 x.w0, .int .i64 x.w1, .int .i64 x.w2, .int .i64 x.w3, .int .i64 x.w4, .int .i64 x.w5, .int .i64 x.w6], .pointer (some ⟨q, 0, none⟩)] W fun e W' => e = .returned (.bool B) ∧ Below W.heap.size W W') :
    Calls Try.prog 88 #[.agg #[.int .i64 x.fr, .int .i64 x.till, .int .i64 x.w0, .int .i64 x.w1, .int .i64 x.w2, .int .i64 x.w3, .int .i64 x.w4, .int .i64 x.w5, .int .i64 x.w6], .pointer (some ⟨b, 0, none⟩)] w fun e w' => e = .returned (.bool (!B)) ∧ Below w.heap.size w w' := by
  have hlt : b < w.heap.size := cell_ltF hb
  obtain ⟨x0, x1, x2, x3, x4, x5, x6, x7, x8⟩ := x
  dsimp only at *
  go_enter Try.func88, Try.ntmps88
  go_wp2_with (go_at_call 69; (with_reducible refine (hK _ bel1).mono ?_); rintro e w' ⟨rfl, hb2⟩)
  go_ret
  exact ⟨rfl, belT bel1 hb2⟩
set_option maxRecDepth 100000 in
set_option maxHeartbeats 2000000 in
theorem allS77 (L : List Sn) (a : Option Addr) (c q : Nat) (p : Sn → Bool) (w : World) (hL : L = [] ∨ ∃ g o, a = some ⟨g, o, none⟩ ∧ g < w.heap.size ∧ ∀ (i : Nat) (h : i < L.length) (j : Nat) (u : Value), (Sn.cs L[i])[j]? = some u → w.cell? ⟨g, o + i * 9 + j, none⟩ = some u) (hl : L.length ≤ 1954687338211)
    (hK : ∀ W, Below w.heap.size w W → ∀ (i : Nat) (h : i < L.length), Calls Try.prog 69 #[.agg #[.int .i64 L[i].fr, .int .i64 L[i].till, .int .i64 L[i].w0, .int .i64 L[i].w1, .int .i64 L[i].w2, .int .i64 L[i].w3, .int .i64 L[i].w4, .int .i64 L[i].w5, .int .i64 L[i].w6], .pointer (some ⟨q, 0, none⟩)] W fun e W' => e = .returned (.bool (p L[i])) ∧ Below W.heap.size W W') :
    Calls Try.prog 61 #[.slice a L.length c, .func (.func 69) #[] #[.pointer (some ⟨q, 0, none⟩)]] w fun e w' => e = .returned (.bool (L.all p)) ∧ Below w.heap.size w w' := by
  have hmf : ∀ (fn : Fn) (first cap : Array Value) (w : World), (Instr.makeFunc fn first cap).run Try.prog w = .ok (.func fn first cap) w := fun _ _ _ _ => rfl
  have hc := cntS L a c w.heap.size p (w.alloc (.cells #[.func (.func 69) #[] #[.pointer (some ⟨q, 0, none⟩)]] 106)) (hL.imp id (fun ⟨g, o, e1, e2, e3⟩ => ⟨g, o, e1, by simp; omega, fun i h j u hu => (bel1.cell (p := ⟨g, _, none⟩) e2).trans (e3 i h j u hu)⟩)) hl (by
    intro W hW i hi
    refine cloS77 L[i] w.heap.size q (p L[i]) W ?_ (fun W2 hW2 => hK W2 (belT (belT bel1 hW) hW2) i hi)
    rw [hW.cell (p := ⟨w.heap.size, 0, none⟩) (by simp)]
    exact (Has.new w #[_] 106 rfl).2.1 0)
  generalize L.all p = R at *
  clear hL hK
  go_enter Try.func61, Try.ntmps61
  go_wp2_with (go_at_call 87; (with_reducible refine hc.mono ?_); rintro e w' ⟨rfl, hb2⟩)
  go_ret
  exact ⟨by simp, belT bel1 hb2⟩
set_option maxRecDepth 100000 in
set_option maxHeartbeats 2000000 in
theorem idxX (L : List Ex) (a : Option Addr) (c b : Nat) (p : Ex → Bool) (w : World) (hL : L = [] ∨ ∃ g o, a = some ⟨g, o, none⟩ ∧ g < w.heap.size ∧ ∀ (i : Nat) (h : i < L.length) (j : Nat) (u : Value), (Ex.cs L[i])[j]? = some u → w.cell? ⟨g, o + i * 2 + j, none⟩ = some u) (hl : L.length ≤ 8796093021952)
    (hC : ∀ W, Below w.heap.size w W → ∀ (i : Nat) (h : i < L.length), Calls Try.prog 90 #[.agg #[.int .i64 L[i].day, .int .i64 L[i].kind], .pointer (some ⟨b, 0, none⟩)] W fun e W' => e = .returned (.bool (!p L[i])) ∧ Below W.heap.size W W') :
    Calls Try.prog 98 #[.slice a L.length c, .func (.func 90) #[] #[.pointer (some ⟨b, 0, none⟩)]] w fun e w' => IxP e (L.all p) ∧ Below w.heap.size w w' := by
  have hC' : Hid (∀ W, Below w.heap.size w W → ∀ (i : Nat) (h : i < L.length), Calls Try.prog 90 #[.agg #[.int .i64 L[i].day, .int .i64 L[i].kind], .pointer (some ⟨b, 0, none⟩)] W fun e W' => e = .returned (.bool (!p L[i])) ∧ Below W.heap.size W W') := hC
  clear hC
  go_enter Try.func98, Try.ntmps98
  go_wp2
  go_loopg [5, 8] L.length (fun gk s5 s8 wr => ∃ k : Nat, k + gk = L.length ∧ s8 = .int .i64 (k : Int) ∧ Hid ((L.drop k).all p = L.all p) ∧ Below w.heap.size w wr)
  case atStart => exact ⟨0, by omega, rfl, by show _ = _; simp, Below.refl _ _⟩
  case round =>
    obtain ⟨k, hk, rfl, hA, hb⟩ := hrel
    by_cases hlt : k < L.length
    · obtain ⟨g, o, rfl, hg, P⟩ := hL.resolve_left (by intro e; rw [e] at hlt; simp at hlt)
      have p0 := (hb.cell (p := ⟨g, _, none⟩) hg).trans (P k hlt 0 _ rfl)
      have p1 := (hb.cell (p := ⟨g, _, none⟩) hg).trans (P k hlt 1 _ rfl)
      simp only [Nat.add_zero] at p0
      have t1 : (k : Int) < (L.length : Int) := by omega
      have t0 : (0 : Int) ≤ (k : Int) := by omega
      have hc := hC'.out wr hb k hlt
      have hs := all_drop p L k hlt
      have hE : Hid (L.all p = (p L[k] && (L.drop (k + 1)).all p)) := by show _ = _; rw [← hA.out, hs]
      clear hs hA P hL
      cases hp : p L[k] with
      | true =>
        rw [hp] at hc
        have hE2 : Hid ((L.drop (k + 1)).all p = L.all p) := by show _ = _; rw [hE.out, hp]; rfl
        clear hE hp
        go_wp2_with (go_at_call 90; (with_reducible refine hc.mono ?_); rintro e w' ⟨rfl, hb2⟩)
        go_roundg (gk - 1)
        case measure => go_light; omega
        case rel => exact ⟨k + 1, by omega, by go_num, hE2, belT hb hb2⟩
      | false =>
        rw [hp] at hc
        have hE2 : Hid (L.all p = false) := by show _ = _; rw [hE.out, hp]; rfl
        clear hE hp
        go_wp2_with (go_at_call 90; (with_reducible refine hc.mono ?_); rintro e w' ⟨rfl, hb2⟩)
        go_ret
        exact ⟨⟨_, rfl, by rw [hE2.out]; simp⟩, belT hb hb2⟩
    · obtain rfl : k = L.length := by omega
      have t1 : ¬ (L.length : Int) < (L.length : Int) := by omega
      have hE2 : Hid (L.all p = true) := by show _ = _; rw [← hA.out]; simp
      clear hL
      go_wp2
      go_ret
      exact ⟨⟨_, rfl, by rw [hE2.out]; rfl⟩, hb⟩
set_option maxRecDepth 100000 in
set_option maxHeartbeats 2000000 in
theorem cntX (L : List Ex) (a : Option Addr) (c b : Nat) (p : Ex → Bool) (w : World) (hL : L = [] ∨ ∃ g o, a = some ⟨g, o, none⟩ ∧ g < w.heap.size ∧ ∀ (i : Nat) (h : i < L.length) (j : Nat) (u : Value), (Ex.cs L[i])[j]? = some u → w.cell? ⟨g, o + i * 2 + j, none⟩ = some u) (hl : L.length ≤ 8796093021952)
    (hC : ∀ W, Below w.heap.size w W → ∀ (i : Nat) (h : i < L.length), Calls Try.prog 90 #[.agg #[.int .i64 L[i].day, .int .i64 L[i].kind], .pointer (some ⟨b, 0, none⟩)] W fun e W' => e = .returned (.bool (!p L[i])) ∧ Below W.heap.size W W') :
    Calls Try.prog 89 #[.slice a L.length c, .func (.func 90) #[] #[.pointer (some ⟨b, 0, none⟩)]] w fun e w' => e = .returned (.bool (!L.all p)) ∧ Below w.heap.size w w' := by
  have hc := idxX L a c b p w hL hl hC
  generalize L.all p = R at *
  clear hL hC
  go_enter Try.func89, Try.ntmps89
  go_wp2_with (go_at_call 98; (with_reducible refine hc.mono ?_); rintro e w' ⟨⟨z, rfl, hz⟩, hb2⟩)
  go_ret
  exact ⟨rfl, hb2⟩
set_option maxRecDepth 100000 in
set_option maxHeartbeats 2000000 in
theorem cloX73 (x : Ex) (b : Nat) (B : Bool) (w : World) (hb : w.cell? ⟨b, 0, none⟩ = some (.func (.func 65) #[] #[]))
    (hK : ∀ W, Below w.heap.size w W → Calls Try.prog 65 #[.agg #[.int .i64 x.day, .int .i64 x.kind]] W fun e W' => e = .returned (.bool B) ∧ Below W.heap.size W W') :
    Calls Try.prog 90 #[.agg #[.int .i64 x.day, .int .i64 x.kind], .pointer (some ⟨b, 0, none⟩)] w fun e w' => e = .returned (.bool (!B)) ∧ Below w.heap.size w w' := by
  have hlt : b < w.heap.size := cell_ltF hb
  obtain ⟨x0, x1⟩ := x
  dsimp only at *
  go_enter Try.func90, Try.ntmps90
  go_wp2_with (go_at_call 65; (with_reducible refine (hK _ bel1).mono ?_); rintro e w' ⟨rfl, hb2⟩)
  go_ret
  exact ⟨rfl, belT bel1 hb2⟩
set_option maxRecDepth 100000 in
set_option maxHeartbeats 2000000 in
theorem allX73 (L : List Ex) (a : Option Addr) (c : Nat) (p : Ex → Bool) (w : World) (hL : L = [] ∨ ∃ g o, a = some ⟨g, o, none⟩ ∧ g < w.heap.size ∧ ∀ (i : Nat) (h : i < L.length) (j : Nat) (u : Value), (Ex.cs L[i])[j]? = some u → w.cell? ⟨g, o + i * 2 + j, none⟩ = some u) (hl : L.length ≤ 8796093021952)
    (hK : ∀ W, Below w.heap.size w W → ∀ (i : Nat) (h : i < L.length), Calls Try.prog 65 #[.agg #[.int .i64 L[i].day, .int .i64 L[i].kind]] W fun e W' => e = .returned (.bool (p L[i])) ∧ Below W.heap.size W W') :
    Calls Try.prog 64 #[.slice a L.length c, .func (.func 65) #[] #[]] w fun e w' => e = .returned (.bool (L.all p)) ∧ Below w.heap.size w w' := by
  have hmf : ∀ (fn : Fn) (first cap : Array Value) (w : World), (Instr.makeFunc fn first cap).run Try.prog w = .ok (.func fn first cap) w := fun _ _ _ _ => rfl
  have hc := cntX L a c w.heap.size p (w.alloc (.cells #[.func (.func 65) #[] #[]] 108)) (hL.imp id (fun ⟨g, o, e1, e2, e3⟩ => ⟨g, o, e1, by simp; omega, fun i h j u hu => (bel1.cell (p := ⟨g, _, none⟩) e2).trans (e3 i h j u hu)⟩)) hl (by
    intro W hW i hi
    refine cloX73 L[i] w.heap.size (p L[i]) W ?_ (fun W2 hW2 => hK W2 (belT (belT bel1 hW) hW2) i hi)
    rw [hW.cell (p := ⟨w.heap.size, 0, none⟩) (by simp)]
    exact (Has.new w #[_] 108 rfl).2.1 0)
  generalize L.all p = R at *
  clear hL hK
  go_enter Try.func64, Try.ntmps64
  go_wp2_with (go_at_call 89; (with_reducible refine hc.mono ?_); rintro e w' ⟨rfl, hb2⟩)
  go_ret
  exact ⟨by simp, belT bel1 hb2⟩
set_option maxRecDepth 100000 in
set_option maxHeartbeats 2000000 in
theorem cloX78 (x : Ex) (b q : Nat) (B : Bool) (w : World) (hb : w.cell? ⟨b, 0, none⟩ = some (.func (.func 70) #[] #[.pointer (some ⟨q, 0, none⟩)]))
    (hK : ∀ W, Below w.heap.size w W → Calls Try.prog 70 #[.agg #[.int .i64 x.day, .int .i64 x.kind], .pointer (some ⟨q, 0, none⟩)] W fun e W' => e = .returned (.bool B) ∧ Below W.heap.size W W') :
    Calls Try.prog 90 #[.agg #[.int .i64 x.day, .int .i64 x.kind], .pointer (some ⟨b, 0, none⟩)] w fun e w' => e = .returned (.bool (!B)) ∧ Below w.heap.size w w' := by
  have hlt : b < w.heap.size := cell_ltF hb
  obtain ⟨x0, x1⟩ := x
  dsimp only at *
  go_enter Try.func90, Try.ntmps90
  go_wp2_with (go_at_call 70; (with_reducible refine (hK _ bel1).mono ?_); rintro e w' ⟨rfl, hb2⟩)
  go_ret
  exact ⟨rfl, belT bel1 hb2⟩
set_option maxRecDepth 100000 in
set_option maxHeartbeats 2000000 in
theorem allX78 (L : List Ex) (a : Option Addr) (c q : Nat) (p : Ex → Bool) (w : World) (hL : L = [] ∨ ∃ g o, a = some ⟨g, o, none⟩ ∧ g < w.heap.size ∧ ∀ (i : Nat) (h : i < L.length) (j : Nat) (u : Value), (Ex.cs L[i])[j]? = some u → w.cell? ⟨g, o + i * 2 + j, none⟩ = some u) (hl : L.length ≤ 8796093021952)
    (hK : ∀ W, Below w.heap.size w W → ∀ (i : Nat) (h : i < L.length), Calls Try.prog 70 #[.agg #[.int .i64 L[i].day, .int .i64 L[i].kind], .pointer (some ⟨q, 0, none⟩)] W fun e W' => e = .returned (.bool (p L[i])) ∧ Below W.heap.size W W') :
    Calls Try.prog 64 #[.slice a L.length c, .func (.func 70) #[] #[.pointer (some ⟨q, 0, none⟩)]] w fun e w' => e = .returned (.bool (L.all p)) ∧ Below w.heap.size w w' := by
  have hmf : ∀ (fn : Fn) (first cap : Array Value) (w : World), (Instr.makeFunc fn first cap).run Try.prog w = .ok (.func fn first cap) w := fun _ _ _ _ => rfl
  have hc := cntX L a c w.heap.size p (w.alloc (.cells #[.func (.func 70) #[] #[.pointer (some ⟨q, 0, none⟩)]] 108)) (hL.imp id (fun ⟨g, o, e1, e2, e3⟩ => ⟨g, o, e1, by simp; omega, fun i h j u hu => (bel1.cell (p := ⟨g, _, none⟩) e2).trans (e3 i h j u hu)⟩)) hl (by
    intro W hW i hi
    refine cloX78 L[i] w.heap.size q (p L[i]) W ?_ (fun W2 hW2 => hK W2 (belT (belT bel1 hW) hW2) i hi)
    rw [hW.cell (p := ⟨w.heap.size, 0, none⟩) (by simp)]
    exact (Has.new w #[_] 108 rfl).2.1 0)
  generalize L.all p = R at *
  clear hL hK
  go_enter Try.func64, Try.ntmps64
  go_wp2_with (go_at_call 89; (with_reducible refine hc.mono ?_); rintro e w' ⟨rfl, hb2⟩)
  go_ret
  exact ⟨by simp, belT bel1 hb2⟩
set_option maxRecDepth 100000 in
set_option maxHeartbeats 2000000 in
theorem idxI (L : List Int) (a : Option Addr) (c b : Nat) (p : Int → Bool) (w : World) (hL : L = [] ∨ ∃ g o, a = some ⟨g, o, none⟩ ∧ g < w.heap.size ∧ ∀ (i : Nat) (h : i < L.length) (j : Nat) (u : Value), (Int.cs L[i])[j]? = some u → w.cell? ⟨g, o + i * 1 + j, none⟩ = some u) (hl : L.length ≤ 1000)
    (hC : ∀ W, Below w.heap.size w W → ∀ (i : Nat) (h : i < L.length), Calls Try.prog 92 #[.int .i64 L[i], .pointer (some ⟨b, 0, none⟩)] W fun e W' => e = .returned (.bool (!p L[i])) ∧ Below W.heap.size W W') :
    Calls Try.prog 99 #[.slice a L.length c, .func (.func 92) #[] #[.pointer (some ⟨b, 0, none⟩)]] w fun e w' => IxP e (L.all p) ∧ Below w.heap.size w w' := by
  have hC' : Hid (∀ W, Below w.heap.size w W → ∀ (i : Nat) (h : i < L.length), Calls Try.prog 92 #[.int .i64 L[i], .pointer (some ⟨b, 0, none⟩)] W fun e W' => e = .returned (.bool (!p L[i])) ∧ Below W.heap.size W W') := hC
  clear hC
  go_enter Try.func99, Try.ntmps99
  go_wp2
  go_loopg [5, 8] L.length (fun gk s5 s8 wr => ∃ k : Nat, k + gk = L.length ∧ s8 = .int .i64 (k : Int) ∧ Hid ((L.drop k).all p = L.all p) ∧ Below w.heap.size w wr)
  case atStart => exact ⟨0, by omega, rfl, by show _ = _; simp, Below.refl _ _⟩
  case round =>
    obtain ⟨k, hk, rfl, hA, hb⟩ := hrel
    by_cases hlt : k < L.length
    · obtain ⟨g, o, rfl, hg, P⟩ := hL.resolve_left (by intro e; rw [e] at hlt; simp at hlt)
      have p0 := (hb.cell (p := ⟨g, _, none⟩) hg).trans (P k hlt 0 _ rfl)
      simp only [Nat.mul_one, Nat.add_zero] at p0
      have t1 : (k : Int) < (L.length : Int) := by omega
      have t0 : (0 : Int) ≤ (k : Int) := by omega
      have hc := hC'.out wr hb k hlt
      have hs := all_drop p L k hlt
      have hE : Hid (L.all p = (p L[k] && (L.drop (k + 1)).all p)) := by show _ = _; rw [← hA.out, hs]
      clear hs hA P hL
      cases hp : p L[k] with
      | true =>
        rw [hp] at hc
        have hE2 : Hid ((L.drop (k + 1)).all p = L.all p) := by show _ = _; rw [hE.out, hp]; rfl
        clear hE hp
        go_wp2_with (go_at_call 92; (with_reducible refine hc.mono ?_); rintro e w' ⟨rfl, hb2⟩)
        go_roundg (gk - 1)
        case measure => go_light; omega
        case rel => exact ⟨k + 1, by omega, by go_num, hE2, belT hb hb2⟩
      | false =>
        rw [hp] at hc
        have hE2 : Hid (L.all p = false) := by show _ = _; rw [hE.out, hp]; rfl
        clear hE hp
        go_wp2_with (go_at_call 92; (with_reducible refine hc.mono ?_); rintro e w' ⟨rfl, hb2⟩)
        go_ret
        exact ⟨⟨_, rfl, by rw [hE2.out]; simp⟩, belT hb hb2⟩
    · obtain rfl : k = L.length := by omega
      have t1 : ¬ (L.length : Int) < (L.length : Int) := by omega
      have hE2 : Hid (L.all p = true) := by show _ = _; rw [← hA.out]; simp
      clear hL
      go_wp2
      go_ret
      exact ⟨⟨_, rfl, by rw [hE2.out]; rfl⟩, hb⟩
set_option maxRecDepth 100000 in
set_option maxHeartbeats 2000000 in
theorem cntI (L : List Int) (a : Option Addr) (c b : Nat) (p : Int → Bool) (w : World) (hL : L = [] ∨ ∃ g o, a = some ⟨g, o, none⟩ ∧ g < w.heap.size ∧ ∀ (i : Nat) (h : i < L.length) (j : Nat) (u : Value), (Int.cs L[i])[j]? = some u → w.cell? ⟨g, o + i * 1 + j, none⟩ = some u) (hl : L.length ≤ 1000)
    (hC : ∀ W, Below w.heap.size w W → ∀ (i : Nat) (h : i < L.length), Calls Try.prog 92 #[.int .i64 L[i], .pointer (some ⟨b, 0, none⟩)] W fun e W' => e = .returned (.bool (!p L[i])) ∧ Below W.heap.size W W') :
    Calls Try.prog 91 #[.slice a L.length c, .func (.func 92) #[] #[.pointer (some ⟨b, 0, none⟩)]] w fun e w' => e = .returned (.bool (!L.all p)) ∧ Below w.heap.size w w' := by
  have hc := idxI L a c b p w hL hl hC
  generalize L.all p = R at *
  clear hL hC
  go_enter Try.func91, Try.ntmps91
  go_wp2_with (go_at_call 99; (with_reducible refine hc.mono ?_); rintro e w' ⟨⟨z, rfl, hz⟩, hb2⟩)
  go_ret
  exact ⟨rfl, hb2⟩
set_option maxRecDepth 100000 in
set_option maxHeartbeats 2000000 in
theorem cloI75 (x : Int) (b q : Nat) (B : Bool) (w : World) (hb : w.cell? ⟨b, 0, none⟩ = some (.func (.func 67) #[] #[.pointer (some ⟨q, 0, none⟩)]))
    (hK : ∀ W, Below w.heap.size w W → Calls Try.prog 67 #[.int .i64 x, .pointer (some ⟨q, 0, none⟩)] W fun e W' => e = .returned (.bool B) ∧ Below W.heap.size W W') :
    Calls Try.prog 92 #[.int .i64 x, .pointer (some ⟨b, 0, none⟩)] w fun e w' => e = .returned (.bool (!B)) ∧ Below w.heap.size w w' := by
  have hlt : b < w.heap.size := cell_ltF hb
  go_enter Try.func92, Try.ntmps92
  go_wp2_with (go_at_call 67; (with_reducible refine (hK _ (Below.refl _ _)).mono ?_); rintro e w' ⟨rfl, hb2⟩)
  go_ret
  exact ⟨rfl, hb2⟩
set_option maxRecDepth 100000 in
set_option maxHeartbeats 2000000 in
theorem allI75 (L : List Int) (a : Option Addr) (c q : Nat) (p : Int → Bool) (w : World) (hL : L = [] ∨ ∃ g o, a = some ⟨g, o, none⟩ ∧ g < w.heap.size ∧ ∀ (i : Nat) (h : i < L.length) (j : Nat) (u : Value), (Int.cs L[i])[j]? = some u → w.cell? ⟨g, o + i * 1 + j, none⟩ = some u) (hl : L.length ≤ 1000)
    (hK : ∀ W, Below w.heap.size w W → ∀ (i : Nat) (h : i < L.length), Calls Try.prog 67 #[.int .i64 L[i], .pointer (some ⟨q, 0, none⟩)] W fun e W' => e = .returned (.bool (p L[i])) ∧ Below W.heap.size W W') :
    Calls Try.prog 68 #[.slice a L.length c, .func (.func 67) #[] #[.pointer (some ⟨q, 0, none⟩)]] w fun e w' => e = .returned (.bool (L.all p)) ∧ Below w.heap.size w w' := by
  have hmf : ∀ (fn : Fn) (first cap : Array Value) (w : World), (Instr.makeFunc fn first cap).run Try.prog w = .ok (.func fn first cap) w := fun _ _ _ _ => rfl
  have hc := cntI L a c w.heap.size p (w.alloc (.cells #[.func (.func 67) #[] #[.pointer (some ⟨q, 0, none⟩)]] 85)) (hL.imp id (fun ⟨g, o, e1, e2, e3⟩ => ⟨g, o, e1, by simp; omega, fun i h j u hu => (bel1.cell (p := ⟨g, _, none⟩) e2).trans (e3 i h j u hu)⟩)) hl (by
    intro W hW i hi
    refine cloI75 L[i] w.heap.size q (p L[i]) W ?_ (fun W2 hW2 => hK W2 (belT (belT bel1 hW) hW2) i hi)
    rw [hW.cell (p := ⟨w.heap.size, 0, none⟩) (by simp)]
    exact (Has.new w #[_] 85 rfl).2.1 0)
  generalize L.all p = R at *
  clear hL hK
  go_enter Try.func68, Try.ntmps68
  go_wp2_with (go_at_call 91; (with_reducible refine hc.mono ?_); rintro e w' ⟨rfl, hb2⟩)
  go_ret
  exact ⟨by simp, belT bel1 hb2⟩
end Go.Proofs.Ytddphepgcihdbaa
