import Derived.Test.YtkeoebllblbkgaaGreatDoorTbM
import Derived.Laws.EntriesVeiled
namespace Go.Proofs.YtkeoebllblbkgaaGreatDoor
open Go.RowKit
set_option linter.unusedVariables false
set_option linter.unusedSimpArgs false

set_option maxRecDepth 100000 in
set_option maxHeartbeats 2000000 in
theorem idxD (L : List Dk) (a : Option Addr) (c b : Nat) (p : Dk → Bool) (w : World) (hL : L = [] ∨ ∃ g o, a = some ⟨g, o, none⟩ ∧ g < w.heap.size ∧ ∀ (i : Nat) (h : i < L.length) (j : Nat) (u : Value), (Dk.cs L[i])[j]? = some u → w.cell? ⟨g, o + i * 2 + j, none⟩ = some u) (hl : L.length ≤ 3518437208781)
    (hC : ∀ W, Below w.heap.size w W → ∀ (i : Nat) (h : i < L.length), Calls Tryz.prog 87 #[.agg #[.string L[i].name, L[i].rv], .pointer (some ⟨b, 0, none⟩)] W fun e W' => e = .returned (.bool (!p L[i])) ∧ Below W.heap.size W W') :
    Calls Tryz.prog 102 #[.slice a L.length c, .func (.func 87) #[] #[.pointer (some ⟨b, 0, none⟩)]] w fun e w' => IxP e (L.all p) ∧ Below w.heap.size w w' := by
  have hC' : Hid (∀ W, Below w.heap.size w W → ∀ (i : Nat) (h : i < L.length), Calls Tryz.prog 87 #[.agg #[.string L[i].name, L[i].rv], .pointer (some ⟨b, 0, none⟩)] W fun e W' => e = .returned (.bool (!p L[i])) ∧ Below W.heap.size W W') := hC
  clear hC
  go_enter Tryz.func102, Tryz.ntmps102
  go_wp2
  go_loopg [5, 8] L.length (fun gk s5 s8 wr => ∃ k : Nat, k + gk = L.length ∧ s8 = .int .i64 (k : Int) ∧ Hid ((L.drop k).all p = L.all p) ∧ Below w.heap.size w wr)
  case atStart => exact ⟨0, by omega, rfl, by show _ = _; simp, Below.refl _ _⟩
  case round =>
    obtain ⟨k, hk, rfl, hA, hb⟩ := hrel
    by_cases hlt : k < L.length
    · obtain ⟨g, o, rfl, hg, P⟩ := hL.resolve_left (by intro e; rw [e] at hlt; simp at hlt)
      have p0 := (hb.cell (p := ⟨g, _, none⟩) hg).trans (P k hlt 0 _ rfl)
      have p1 := (hb.cell (p := ⟨g, _, none⟩) hg).trans (P k hlt 1 _ rfl)
      simp only [Nat.add_zero] at p0
      have t1 : (k : Int) < (L.length : Int) := by omega
      have t0 : (0 : Int) ≤ (k : Int) := by omega
      have hc := hC'.out wr hb k hlt
      have hs := all_drop p L k hlt
      have hE : Hid (L.all p = (p L[k] && (L.drop (k + 1)).all p)) := by show _ = _; rw [← hA.out, hs]
      clear hs hA P hL
      cases hp : p L[k] with
      | true =>
        rw [hp] at hc
        have hE2 : Hid ((L.drop (k + 1)).all p = L.all p) := by show _ = _; rw [hE.out, hp]; rfl
        clear hE hp
        go_wp2_with (go_at_call 87; (with_reducible refine hc.mono ?_); rintro e w' ⟨rfl, hb2⟩)
        go_roundg (gk - 1)
        case measure => go_light; omega
        case rel => exact ⟨k + 1, by omega, by go_num, hE2, belT hb hb2⟩
      | false =>
        rw [hp] at hc
        have hE2 : Hid (L.all p = false) := by show _ = _; rw [hE.out, hp]; rfl
        clear hE hp
        go_wp2_with (go_at_call 87; (with_reducible refine hc.mono ?_); rintro e w' ⟨rfl, hb2⟩)
        go_ret
        exact ⟨⟨_, rfl, by rw [hE2.out]; simp⟩, belT hb hb2⟩
    · obtain rfl : k = L.length := by omega
      have t1 : ¬ (L.length : Int) < (L.length : Int) := by omega
      have hE2 : Hid (L.all p = true) := by show _ = _; rw [← hA.out]; simp
      clear hL
      go_wp2
      go_ret
      exact ⟨⟨_, rfl, by rw [hE2.out]; rfl⟩, hb⟩
set_option maxRecDepth 100000 in
set_option maxHeartbeats 2000000 in
theorem cntD (L : List Dk) (a : Option Addr) (c b : Nat) (p : Dk → Bool) (w : World) (hL : L = [] ∨ ∃ g o, a = some ⟨g, o, none⟩ ∧ g < w.heap.size ∧ ∀ (i : Nat) (h : i < L.length) (j : Nat) (u : Value), (Dk.cs L[i])[j]? = some u → w.cell? ⟨g, o + i * 2 + j, none⟩ = some u) (hl : L.length ≤ 3518437208781)
    (hC : ∀ W, Below w.heap.size w W → ∀ (i : Nat) (h : i < L.length), Calls Tryz.prog 87 #[.agg #[.string L[i].name, L[i].rv], .pointer (some ⟨b, 0, none⟩)] W fun e W' => e = .returned (.bool (!p L[i])) ∧ Below W.heap.size W W') :
    Calls Tryz.prog 86 #[.slice a L.length c, .func (.func 87) #[] #[.pointer (some ⟨b, 0, none⟩)]] w fun e w' => e = .returned (.bool (!L.all p)) ∧ Below w.heap.size w w' := by
  have hc := idxD L a c b p w hL hl hC
  generalize L.all p = R at *
  clear hL hC
  go_enter Tryz.func86, Tryz.ntmps86
  go_wp2_with (go_at_call 102; (with_reducible refine hc.mono ?_); rintro e w' ⟨⟨z, rfl, hz⟩, hb2⟩)
  go_ret
  exact ⟨rfl, hb2⟩
set_option maxRecDepth 100000 in
set_option maxHeartbeats 2000000 in
theorem cloD56 (x : Dk) (b : Nat) (B : Bool) (w : World) (hb : w.cell? ⟨b, 0, none⟩ = some (.func (.func 47) #[] #[]))
    (hK : ∀ W, Below w.heap.size w W → Calls Tryz.prog 47 #[.agg #[.string x.name, x.rv]] W fun e W' => e = .returned (.bool B) ∧ Below W.heap.size W W') :
    Calls Tryz.prog 87 #[.agg #[.string x.name, x.rv], .pointer (some ⟨b, 0, none⟩)] w fun e w' => e = .returned (.bool (!B)) ∧ Below w.heap.size w w' := by
  have hlt : b < w.heap.size := cell_ltF hb
  obtain ⟨x0, x1, x2⟩ := x
  dsimp only at *
  go_enter Tryz.func87, Tryz.ntmps87
  go_wp2_with (go_at_call 47; (with_reducible refine (hK _ bel1).mono ?_); rintro e w' ⟨rfl, hb2⟩)
  go_ret
  exact ⟨rfl, belT bel1 hb2⟩
set_option maxRecDepth 100000 in
set_option maxHeartbeats 2000000 in
theorem allD56 (L : List Dk) (a : Option Addr) (c : Nat) (p : Dk → Bool) (w : World) (hL : L = [] ∨ ∃ g o, a = some ⟨g, o, none⟩ ∧ g < w.heap.size ∧ ∀ (i : Nat) (h : i < L.length) (j : Nat) (u : Value), (Dk.cs L[i])[j]? = some u → w.cell? ⟨g, o + i * 2 + j, none⟩ = some u) (hl : L.length ≤ 3518437208781)
    (hK : ∀ W, Below w.heap.size w W → ∀ (i : Nat) (h : i < L.length), Calls Tryz.prog 47 #[.agg #[.string L[i].name, L[i].rv]] W fun e W' => e = .returned (.bool (p L[i])) ∧ Below W.heap.size W W') :
    Calls Tryz.prog 46 #[.slice a L.length c, .func (.func 47) #[] #[]] w fun e w' => e = .returned (.bool (L.all p)) ∧ Below w.heap.size w w' := by
  have hmf : ∀ (fn : Fn) (first cap : Array Value) (w : World), (Instr.makeFunc fn first cap).run Tryz.prog w = .ok (.func fn first cap) w := fun _ _ _ _ => rfl
  have hc := cntD L a c w.heap.size p (w.alloc (.cells #[.func (.func 47) #[] #[]] 77)) (hL.imp id (fun ⟨g, o, e1, e2, e3⟩ => ⟨g, o, e1, by simp; omega, fun i h j u hu => (bel1.cell (p := ⟨g, _, none⟩) e2).trans (e3 i h j u hu)⟩)) hl (by
    intro W hW i hi
    refine cloD56 L[i] w.heap.size (p L[i]) W ?_ (fun W2 hW2 => hK W2 (belT (belT bel1 hW) hW2) i hi)
    rw [hW.cell (p := ⟨w.heap.size, 0, none⟩) (by simp)]
    exact (Has.new w #[_] 77 rfl).2.1 0)
  generalize L.all p = R at *
  clear hL hK
  go_enter Tryz.func46, Tryz.ntmps46
  go_wp2_with (go_at_call 86; (with_reducible refine hc.mono ?_); rintro e w' ⟨rfl, hb2⟩)
  go_ret
  exact ⟨by simp, belT bel1 hb2⟩
set_option maxRecDepth 100000 in
set_option maxHeartbeats 2000000 in
theorem cloD57 (x : Dk) (b : Nat) (B : Bool) (w : World) (hb : w.cell? ⟨b, 0, none⟩ = some (.func (.func 48) #[] #[]))
    (hK : ∀ W, Below w.heap.size w W → Calls Tryz.prog 48 #[.agg #[.string x.name, x.rv]] W fun e W' => e = .returned (.bool B) ∧ Below W.heap.size W W') :
    Calls Tryz.prog 87 #[.agg #[.string x.name, x.rv], .pointer (some ⟨b, 0, none⟩)] w fun e w' => e = .returned (.bool (!B)) ∧ Below w.heap.size w w' := by
  have hlt : b < w.heap.size := cell_ltF hb
  obtain ⟨x0, x1, x2⟩ := x
  dsimp only at *
  go_enter Tryz.func87, Tryz.ntmps87
  go_wp2_with (go_at_call 48; (with_reducible refine (hK _ bel1).mono ?_); rintro e w' ⟨rfl, hb2⟩)
  go_ret
  exact ⟨rfl, belT bel1 hb2⟩
set_option maxRecDepth 100000 in
set_option maxHeartbeats 2000000 in
theorem allD57 (L : List Dk) (a : Option Addr) (c : Nat) (p : Dk → Bool) (w : World) (hL : L = [] ∨ ∃ g o, a = some ⟨g, o, none⟩ ∧ g < w.heap.size ∧ ∀ (i : Nat) (h : i < L.length) (j : Nat) (u : Value), (Dk.cs L[i])[j]? = some u → w.cell? ⟨g, o + i * 2 + j, none⟩ = some u) (hl : L.length ≤ 3518437208781)
    (hK : ∀ W, Below w.heap.size w W → ∀ (i : Nat) (h : i < L.length), Calls Tryz.prog 48 #[.agg #[.string L[i].name, L[i].rv]] W fun e W' => e = .returned (.bool (p L[i])) ∧ Below W.heap.size W W') :
    Calls Tryz.prog 46 #[.slice a L.length c, .func (.func 48) #[] #[]] w fun e w' => e = .returned (.bool (L.all p)) ∧ Below w.heap.size w w' := by
  have hmf : ∀ (fn : Fn) (first cap : Array Value) (w : World), (Instr.makeFunc fn first cap).run Tryz.prog w = .ok (.func fn first cap) w := fun _ _ _ _ => rfl
  have hc := cntD L a c w.heap.size p (w.alloc (.cells #[.func (.func 48) #[] #[]] 77)) (hL.imp id (fun ⟨g, o, e1, e2, e3⟩ => ⟨g, o, e1, by simp; omega, fun i h j u hu => (bel1.cell (p := ⟨g, _, none⟩) e2).trans (e3 i h j u hu)⟩)) hl (by
    intro W hW i hi
    refine cloD57 L[i] w.heap.size (p L[i]) W ?_ (fun W2 hW2 => hK W2 (belT (belT bel1 hW) hW2) i hi)
    rw [hW.cell (p := ⟨w.heap.size, 0, none⟩) (by simp)]
    exact (Has.new w #[_] 77 rfl).2.1 0)
  generalize L.all p = R at *
  clear hL hK
  go_enter Tryz.func46, Tryz.ntmps46
  go_wp2_with (go_at_call 86; (with_reducible refine hc.mono ?_); rintro e w' ⟨rfl, hb2⟩)
  go_ret
  exact ⟨by simp, belT bel1 hb2⟩
set_option maxRecDepth 100000 in
set_option maxHeartbeats 2000000 in
theorem cloD58 (x : Dk) (b : Nat) (B : Bool) (w : World) (hb : w.cell? ⟨b, 0, none⟩ = some (.func (.func 49) #[] #[]))
    (hK : ∀ W, Below w.heap.size w W → Calls Tryz.prog 49 #[.agg #[.string x.name, x.rv]] W fun e W' => e = .returned (.bool B) ∧ Below W.heap.size W W') :
    Calls Tryz.prog 87 #[.agg #[.string x.name, x.rv], .pointer (some ⟨b, 0, none⟩)] w fun e w' => e = .returned (.bool (!B)) ∧ Below w.heap.size w w' := by
  have hlt : b < w.heap.size := cell_ltF hb
  obtain ⟨x0, x1, x2⟩ := x
  dsimp only at *
  go_enter Tryz.func87, Tryz.ntmps87
  go_wp2_with (go_at_call 49; (with_reducible refine (hK _ bel1).mono ?_); rintro e w' ⟨rfl, hb2⟩)
  go_ret
  exact ⟨rfl, belT bel1 hb2⟩
set_option maxRecDepth 100000 in
set_option maxHeartbeats 2000000 in
theorem allD58 (L : List Dk) (a : Option Addr) (c : Nat) (p : Dk → Bool) (w : World) (hL : L = [] ∨ ∃ g o, a = some ⟨g, o, none⟩ ∧ g < w.heap.size ∧ ∀ (i : Nat) (h : i < L.length) (j : Nat) (u : Value), (Dk.cs L[i])[j]? = some u → w.cell? ⟨g, o + i * 2 + j, none⟩ = some u) (hl : L.length ≤ 3518437208781)
    (hK : ∀ W, Below w.heap.size w W → ∀ (i : Nat) (h : i < L.length), Calls Tryz.prog 49 #[.agg #[.string L[i].name, L[i].rv]] W fun e W' => e = .returned (.bool (p L[i])) ∧ Below W.heap.size W W') :
    Calls Tryz.prog 46 #[.slice a L.length c, .func (.func 49) #[] #[]] w fun e w' => e = .returned (.bool (L.all p)) ∧ Below w.heap.size w w' := by
  have hmf : ∀ (fn : Fn) (first cap : Array Value) (w : World), (Instr.makeFunc fn first cap).run Tryz.prog w = .ok (.func fn first cap) w := fun _ _ _ _ => rfl
  have hc := cntD L a c w.heap.size p (w.alloc (.cells #[.func (.func 49) #[] #[]] 77)) (hL.imp id (fun ⟨g, o, e1, e2, e3⟩ => ⟨g, o, e1, by simp; omega, fun i h j u hu => (bel1.cell (p := ⟨g, _, none⟩) e2).trans (e3 i h j u hu)⟩)) hl (by
    intro W hW i hi
    refine cloD58 L[i] w.heap.size (p L[i]) W ?_ (fun W2 hW2 => hK W2 (belT (belT bel1 hW) hW2) i hi)
    rw [hW.cell (p := ⟨w.heap.size, 0, none⟩) (by simp)]
    exact (Has.new w #[_] 77 rfl).2.1 0)
  generalize L.all p = R at *
  clear hL hK
  go_enter Tryz.func46, Tryz.ntmps46
  go_wp2_with (go_at_call 86; (with_reducible refine hc.mono ?_); rintro e w' ⟨rfl, hb2⟩)
  go_ret
  exact ⟨by simp, belT bel1 hb2⟩
set_option maxRecDepth 100000 in
set_option maxHeartbeats 2000000 in
theorem cloD63 (x : Dk) (b : Nat) (B : Bool) (w : World) (hb : w.cell? ⟨b, 0, none⟩ = some (.func (.func 54) #[] #[]))
    (hK : ∀ W, Below w.heap.size w W → Calls Tryz.prog 54 #[.agg #[.string x.name, x.rv]] W fun e W' => e = .returned (.bool B) ∧ Below W.heap.size W W') :
    Calls Tryz.prog 87 #[.agg #[.string x.name, x.rv], .pointer (some ⟨b, 0, none⟩)] w fun e w' => e = .returned (.bool (!B)) ∧ Below w.heap.size w w' := by
  have hlt : b < w.heap.size := cell_ltF hb
  obtain ⟨x0, x1, x2⟩ := x
  dsimp only at *
  go_enter Tryz.func87, Tryz.ntmps87
  go_wp2_with (go_at_call 54; (with_reducible refine (hK _ bel1).mono ?_); rintro e w' ⟨rfl, hb2⟩)
  go_ret
  exact ⟨rfl, belT bel1 hb2⟩
set_option maxRecDepth 100000 in
set_option maxHeartbeats 2000000 in
theorem allD63 (L : List Dk) (a : Option Addr) (c : Nat) (p : Dk → Bool) (w : World) (hL : L = [] ∨ ∃ g o, a = some ⟨g, o, none⟩ ∧ g < w.heap.size ∧ ∀ (i : Nat) (h : i < L.length) (j : Nat) (u : Value), (Dk.cs L[i])[j]? = some u → w.cell? ⟨g, o + i * 2 + j, none⟩ = some u) (hl : L.length ≤ 3518437208781)
    (hK : ∀ W, Below w.heap.size w W → ∀ (i : Nat) (h : i < L.length), Calls Tryz.prog 54 #[.agg #[.string L[i].name, L[i].rv]] W fun e W' => e = .returned (.bool (p L[i])) ∧ Below W.heap.size W W') :
    Calls Tryz.prog 46 #[.slice a L.length c, .func (.func 54) #[] #[]] w fun e w' => e = .returned (.bool (L.all p)) ∧ Below w.heap.size w w' := by
  have hmf : ∀ (fn : Fn) (first cap : Array Value) (w : World), (Instr.makeFunc fn first cap).run Tryz.prog w = .ok (.func fn first cap) w := fun _ _ _ _ => rfl
  have hc := cntD L a c w.heap.size p (w.alloc (.cells #[.func (.func 54) #[] #[]] 77)) (hL.imp id (fun ⟨g, o, e1, e2, e3⟩ => ⟨g, o, e1, by simp; omega, fun i h j u hu => (bel1.cell (p := ⟨g, _, none⟩) e2).trans (e3 i h j u hu)⟩)) hl (by
    intro W hW i hi
    refine cloD63 L[i] w.heap.size (p L[i]) W ?_ (fun W2 hW2 => hK W2 (belT (belT bel1 hW) hW2) i hi)
    rw [hW.cell (p := ⟨w.heap.size, 0, none⟩) (by simp)]
    exact (Has.new w #[_] 77 rfl).2.1 0)
  generalize L.all p = R at *
  clear hL hK
  go_enter Tryz.func46, Tryz.ntmps46
  go_wp2_with (go_at_call 86; (with_reducible refine hc.mono ?_); rintro e w' ⟨rfl, hb2⟩)
  go_ret
  exact ⟨by simp, belT bel1 hb2⟩
set_option maxRecDepth 100000 in
set_option maxHeartbeats 2000000 in
theorem cloD79 (x : Dk) (b : Nat) (B : Bool) (w : World) (hb : w.cell? ⟨b, 0, none⟩ = some (.func (.func 70) #[] #[]))
    (hK : ∀ W, Below w.heap.size w W → Calls Tryz.prog 70 #[.agg #[.string x.name, x.rv]] W fun e W' => e = .returned (.bool B) ∧ Below W.heap.size W W') :
    Calls Tryz.prog 87 #[.agg #[.string x.name, x.rv], .pointer (some ⟨b, 0, none⟩)] w fun e w' => e = .returned (.bool (!B)) ∧ Below w.heap.size w w' := by
  have hlt : b < w.heap.size := cell_ltF hb
  obtain ⟨x0, x1, x2⟩ := x
  dsimp only at *
  go_enter Tryz.func87, Tryz.ntmps87
  go_wp2_with (go_at_call 70; (with_reducible refine (hK _ bel1).mono ?_); rintro e w' ⟨rfl, hb2⟩)
  go_ret
  exact ⟨rfl, belT bel1 hb2⟩
set_option maxRecDepth 100000 in
set_option maxHeartbeats 2000000 in
theorem allD79 (L : List Dk) (a : Option Addr) (c : Nat) (p : Dk → Bool) (w : World) (hL : L = [] ∨ ∃ g o, a = some ⟨g, o, none⟩ ∧ g < w.heap.size ∧ ∀ (i : Nat) (h : i < L.length) (j : Nat) (u : Value), (Dk.cs L[i])[j]? = some u → w.cell? ⟨g, o + i * 2 + j, none⟩ = some u) (hl : L.length ≤ 3518437208781)
    (hK : ∀ W, Below w.heap.size w W → ∀ (i : Nat) (h : i < L.length), Calls Tryz.prog 70 #[.agg #[.string L[i].name, L[i].rv]] W fun e W' => e = .returned (.bool (p L[i])) ∧ Below W.heap.size W W') :
    Calls Tryz.prog 46 #[.slice a L.length c, .func (.func 70) #[] #[]] w fun e w' => e = .returned (.bool (L.all p)) ∧ Below w.heap.size w w' := by
  have hmf : ∀ (fn : Fn) (first cap : Array Value) (w : World), (Instr.makeFunc fn first cap).run Tryz.prog w = .ok (.func fn first cap) w := fun _ _ _ _ => rfl
  have hc := cntD L a c w.heap.size p (w.alloc (.cells #[.func (.func 70) #[] #[]] 77)) (hL.imp id (fun ⟨g, o, e1, e2, e3⟩ => ⟨g, o, e1, by simp; omega, fun i h j u hu => (bel1.cell (p := ⟨g, _, none⟩) e2).trans (e3 i h j u hu)⟩)) hl (by
    intro W hW i hi
    refine cloD79 L[i] w.heap.size (p L[i]) W ?_ (fun W2 hW2 => hK W2 (belT (belT bel1 hW) hW2) i hi)
    rw [hW.cell (p := ⟨w.heap.size, 0, none⟩) (by simp)]
    exact (Has.new w #[_] 77 rfl).2.1 0)
  generalize L.all p = R at *
  clear hL hK
  go_enter Tryz.func46, Tryz.ntmps46
  go_wp2_with (go_at_call 86; (with_reducible refine hc.mono ?_); rintro e w' ⟨rfl, hb2⟩)
  go_ret
  exact ⟨by simp, belT bel1 hb2⟩
end Go.Proofs.YtkeoebllblbkgaaGreatDoor
