import Derived.Test.YtddphepgcihdbaaGreatTbM
import Derived.Laws.EntriesVeiled
namespace Go.Proofs.YtddphepgcihdbaaGreat
open Go.RowKit
set_option linter.unusedVariables false
set_option linter.unusedSimpArgs false

set_option maxRecDepth 100000 in
set_option maxHeartbeats 2000000 in
theorem idxD (L : List Dk) (a : Option Addr) (c b : Nat) (p : Dk → Bool) (w : World) (hL : L = [] ∨ ∃ g o, a = some ⟨g, o, none⟩ ∧ g < w.heap.size ∧ ∀ (i : Nat) (h : i < L.length) (j : Nat) (u : Value), (Dk.cs L[i])[j]? = some u → w.cell? ⟨g, o + i * 2 + j, none⟩ = some u) (hl : L.length ≤ 3518437208781)
    (hC : ∀ W, Below w.heap.size w W → ∀ (i : Nat) (h : i < L.length), Calls Tryz.prog 90 #[.agg #[.string L[i].name, L[i].rv], .pointer (some ⟨b, 0, none⟩)] W fun e W' => e = .returned (.bool (!p L[i])) ∧ Below W.heap.size W W') :
    Calls Tryz.prog 101 #[.slice a L.length c, .func (.func 90) #[] #[.pointer (some ⟨b, 0, none⟩)]] w fun e w' => IxP e (L.all p) ∧ Below w.heap.size w w' := by
  have hC' : Hid (∀ W, Below w.heap.size w W → ∀ (i : Nat) (h : i < L.length), Calls Tryz.prog 90 #[.agg #[.string L[i].name, L[i].rv], .pointer (some ⟨b, 0, none⟩)] W fun e W' => e = .returned (.bool (!p L[i])) ∧ Below W.heap.size W W') := hC
  clear hC
  go_enter Tryz.func101, Tryz.ntmps101
  go_wp2
  go_loopg [5, 8] L.length (fun gk s5 s8 wr => ∃ k : Nat, k + gk = L.length ∧ s8 = .int .i64 (k : Int) ∧ Hid ((L.drop k).all p = L.all p) ∧ Below w.heap.size w wr)
  case atStart => exact ⟨0, by omega, rfl, by show _ = _; simp, Below.refl _ _⟩
  case round =>
    obtain ⟨k, hk, rfl, hA, hb⟩ := hrel
    by_cases hlt : k < L.length
    · obtain ⟨g, o, rfl, hg, P⟩ := hL.resolve_left (by intro e; rw [e] at hlt; simp at hlt)
      have p0 := (hb.cell (p := ⟨g, _, none⟩) hg).trans (P k hlt 0 _ rfl)
      have p1 := (hb.cell (p := ⟨g, _, none⟩) hg).trans (P k hlt 1 _ rfl)
      simp only [Nat.add_zero] at p0
      have t1 : (k : Int) < (L.length : Int) := by omega
      have t0 : (0 : Int) ≤ (k : Int) := by omega
      have hc := hC'.out wr hb k hlt
      have hs := all_drop p L k hlt
      have hE : Hid (L.all p = (p L[k] && (L.drop (k + 1)).all p)) := by show _ = _; rw [← hA.out, hs]
      clear hs hA P hL
      cases hp : p L[k] with
      | true =>
        rw [hp] at hc
        have hE2 : Hid ((L.drop (k + 1)).all p = L.all p) := by show _ = _; rw [hE.out, hp]; rfl
        clear hE hp
        go_wp2_with (go_at_call 90; (with_reducible refine hc.mono ?_); rintro e w' ⟨rfl, hb2⟩)
        go_roundg (gk - 1)
        case measure => go_light; omega
        case rel => exact ⟨k + 1, by omega, by go_num, hE2, belT hb hb2⟩
      | false =>
        rw [hp] at hc
        have hE2 : Hid (L.all p = false) := by show _ = _; rw [hE.out, hp]; rfl
        clear hE hp
        go_wp2_with (go_at_call 90; (with_reducible refine hc.mono ?_); rintro e w' ⟨rfl, hb2⟩)
        go_ret
        exact ⟨⟨_, rfl, by rw [hE2.out]; simp⟩, belT hb hb2⟩
    · obtain rfl : k = L.length := by omega
      have t1 : ¬ (L.length : Int) < (L.length : Int) := by omega
      have hE2 : Hid (L.all p = true) := by show _ = _; rw [← hA.out]; simp
      clear hL
      go_wp2
      go_ret
      exact ⟨⟨_, rfl, by rw [hE2.out]; rfl⟩, hb⟩
set_option maxRecDepth 100000 in
set_option maxHeartbeats 2000000 in
theorem cntD (L : List Dk) (a : Option Addr) (c b : Nat) (p : Dk → Bool) (w : World) (hL : L = [] ∨ ∃ g o, a = some ⟨g, o, none⟩ ∧ g < w.heap.size ∧ ∀ (i : Nat) (h : i < L.length) (j : Nat) (u : Value), (Dk.cs L[i])[j]? = some u → w.cell? ⟨g, o + i * 2 + j, none⟩ = some u) (hl : L.length ≤ 3518437208781)
    (hC : ∀ W, Below w.heap.size w W → ∀ (i : Nat) (h : i < L.length), Calls Tryz.prog 90 #[.agg #[.string L[i].name, L[i].rv], .pointer (some ⟨b, 0, none⟩)] W fun e W' => e = .returned (.bool (!p L[i])) ∧ Below W.heap.size W W') :
    Calls Tryz.prog 89 #[.slice a L.length c, .func (.func 90) #[] #[.pointer (some ⟨b, 0, none⟩)]] w fun e w' => e = .returned (.bool (!L.all p)) ∧ Below w.heap.size w w' := by
  have hc := idxD L a c b p w hL hl hC
  generalize L.all p = R at *
  clear hL hC
  go_enter Tryz.func89, Tryz.ntmps89
  go_wp2_with (go_at_call 101; (with_reducible refine hc.mono ?_); rintro e w' ⟨⟨z, rfl, hz⟩, hb2⟩)
  go_ret
  exact ⟨rfl, hb2⟩
set_option maxRecDepth 100000 in
set_option maxHeartbeats 2000000 in
theorem cloD56 (x : Dk) (b : Nat) (B : Bool) (w : World) (hb : w.cell? ⟨b, 0, none⟩ = some (.func (.func 58) #[] #[]))
    (hK : ∀ W, Below w.heap.size w W → Calls Tryz.prog 58 #[.agg #[.string x.name, x.rv]] W fun e W' => e = .returned (.bool B) ∧ Below W.heap.size W W') :
    Calls Tryz.prog 90 #[.agg #[.string x.name, x.rv], .pointer (some ⟨b, 0, none⟩)] w fun e w' => e = .returned (.bool (!B)) ∧ Below w.heap.size w w' := by
  have hlt : b < w.heap.size := cell_ltF hb
  obtain ⟨x0, x1, x2⟩ := x
  dsimp only at *
  go_enter Tryz.func90, Tryz.ntmps90
  go_wp2_with (go_at_call 58; (with_reducible refine (hK _ bel1).mono ?_); rintro e w' ⟨rfl, hb2⟩)
  go_ret
  exact ⟨rfl, belT bel1 hb2⟩
set_option maxRecDepth 100000 in
set_option maxHeartbeats 2000000 in
theorem allD56 (L : List Dk) (a : Option Addr) (c : Nat) (p : Dk → Bool) (w : World) (hL : L = [] ∨ ∃ g o, a = some ⟨g, o, none⟩ ∧ g < w.heap.size ∧ ∀ (i : Nat) (h : i < L.length) (j : Nat) (u : Value), (Dk.cs L[i])[j]? = some u → w.cell? ⟨g, o + i * 2 + j, none⟩ = some u) (hl : L.length ≤ 3518437208781)
    (hK : ∀ W, Below w.heap.size w W → ∀ (i : Nat) (h : i < L.length), Calls Tryz.prog 58 #[.agg #[.string L[i].name, L[i].rv]] W fun e W' => e = .returned (.bool (p L[i])) ∧ Below W.heap.size W W') :
    Calls Tryz.prog 57 #[.slice a L.length c, .func (.func 58) #[] #[]] w fun e w' => e = .returned (.bool (L.all p)) ∧ Below w.heap.size w w' := by
  have hmf : ∀ (fn : Fn) (first cap : Array Value) (w : World), (Instr.makeFunc fn first cap).run Tryz.prog w = .ok (.func fn first cap) w := fun _ _ _ _ => rfl
  have hc := cntD L a c w.heap.size p (w.alloc (.cells #[.func (.func 58) #[] #[]] 87)) (hL.imp id (fun ⟨g, o, e1, e2, e3⟩ => ⟨g, o, e1, by simp; omega, fun i h j u hu => (bel1.cell (p := ⟨g, _, none⟩) e2).trans (e3 i h j u hu)⟩)) hl (by
    intro W hW i hi
    refine cloD56 L[i] w.heap.size (p L[i]) W ?_ (fun W2 hW2 => hK W2 (belT (belT bel1 hW) hW2) i hi)
    rw [hW.cell (p := ⟨w.heap.size, 0, none⟩) (by simp)]
    exact (Has.new w #[_] 87 rfl).2.1 0)
  generalize L.all p = R at *
  clear hL hK
  go_enter Tryz.func57, Tryz.ntmps57
  go_wp2_with (go_at_call 89; (with_reducible refine hc.mono ?_); rintro e w' ⟨rfl, hb2⟩)
  go_ret
  exact ⟨by simp, belT bel1 hb2⟩
set_option maxRecDepth 100000 in
set_option maxHeartbeats 2000000 in
theorem cloD57 (x : Dk) (b : Nat) (B : Bool) (w : World) (hb : w.cell? ⟨b, 0, none⟩ = some (.func (.func 59) #[] #[]))
    (hK : ∀ W, Below w.heap.size w W → Calls Tryz.prog 59 #[.agg #[.string x.name, x.rv]] W fun e W' => e = .returned (.bool B) ∧ Below W.heap.size W W') :
    Calls Tryz.prog 90 #[.agg #[.string x.name, x.rv], .pointer (some ⟨b, 0, none⟩)] w fun e w' => e = .returned (.bool (!B)) ∧ Below w.heap.size w w' := by
  have hlt : b < w.heap.size := cell_ltF hb
  obtain ⟨x0, x1, x2⟩ := x
  dsimp only at *
  go_enter Tryz.func90, Tryz.ntmps90
  go_wp2_with (go_at_call 59; (with_reducible refine (hK _ bel1).mono ?_); rintro e w' ⟨rfl, hb2⟩)
  go_ret
  exact ⟨rfl, belT bel1 hb2⟩
set_option maxRecDepth 100000 in
set_option maxHeartbeats 2000000 in
theorem allD57 (L : List Dk) (a : Option Addr) (c : Nat) (p : Dk → Bool) (w : World) (hL : L = [] ∨ ∃ g o, a = some ⟨g, o, none⟩ ∧ g < w.heap.size ∧ ∀ (i : Nat) (h : i < L.length) (j : Nat) (u : Value), (Dk.cs L[i])[j]? = some u → w.cell? ⟨g, o + i * 2 + j, none⟩ = some u) (hl : L.length ≤ 3518437208781)
    (hK : ∀ W, Below w.heap.size w W → ∀ (i : Nat) (h : i < L.length), Calls Tryz.prog 59 #[.agg #[.string L[i].name, L[i].rv]] W fun e W' => e = .returned (.bool (p L[i])) ∧ Below W.heap.size W W') :
    Calls Tryz.prog 57 #[.slice a L.length c, .func (.func 59) #[] #[]] w fun e w' => e = .returned (.bool (L.all p)) ∧ Below w.heap.size w w' := by
  have hmf : ∀ (fn : Fn) (first cap : Array Value) (w : World), (Instr.makeFunc fn first cap).run Tryz.prog w = .ok (.func fn first cap) w := fun _ _ _ _ => rfl
  have hc := cntD L a c w.heap.size p (w.alloc (.cells #[.func (.func 59) #[] #[]] 87)) (hL.imp id (fun ⟨g, o, e1, e2, e3⟩ => ⟨g, o, e1, by simp; omega, fun i h j u hu => (bel1.cell (p := ⟨g, _, none⟩) e2).trans (e3 i h j u hu)⟩)) hl (by
    intro W hW i hi
    refine cloD57 L[i] w.heap.size (p L[i]) W ?_ (fun W2 hW2 => hK W2 (belT (belT bel1 hW) hW2) i hi)
    rw [hW.cell (p := ⟨w.heap.size, 0, none⟩) (by simp)]
    exact (Has.new w #[_] 87 rfl).2.1 0)
  generalize L.all p = R at *
  clear hL hK
  go_enter Tryz.func57, Tryz.ntmps57
  go_wp2_with (go_at_call 89; (with_reducible refine hc.mono ?_); rintro e w' ⟨rfl, hb2⟩)
  go_ret
  exact ⟨by simp, belT bel1 hb2⟩
set_option maxRecDepth 100000 in
set_option maxHeartbeats 2000000 in
theorem cloD58 (x : Dk) (b : Nat) (B : Bool) (w : World) (hb : w.cell? ⟨b, 0, none⟩ = some (.func (.func 60) #[] #[]))
    (hK : ∀ W, Below w.heap.size w W → Calls Tryz.prog 60 #[.agg #[.string x.name, x.rv]] W fun e W' => e = .returned (.bool B) ∧ Below W.heap.size W W') :
    Calls Tryz.prog 90 #[.agg #[.string x.name, x.rv], .pointer (some ⟨b, 0, none⟩)] w fun e w' => e = .returned (.bool (!B)) ∧ Below w.heap.size w w' := by
  have hlt : b < w.heap.size := cell_ltF hb
  obtain ⟨x0, x1, x2⟩ := x
  dsimp only at *
  go_enter Tryz.func90, Tryz.ntmps90
  go_wp2_with (go_at_call 60; (with_reducible refine (hK _ bel1).mono ?_); rintro e w' ⟨rfl, hb2⟩)
  go_ret
  exact ⟨rfl, belT bel1 hb2⟩
set_option maxRecDepth 100000 in
set_option maxHeartbeats 2000000 in
theorem allD58 (L : List Dk) (a : Option Addr) (c : Nat) (p : Dk → Bool) (w : World) (hL : L = [] ∨ ∃ g o, a = some ⟨g, o, none⟩ ∧ g < w.heap.size ∧ ∀ (i : Nat) (h : i < L.length) (j : Nat) (u : Value), (Dk.cs L[i])[j]? = some u → w.cell? ⟨g, o + i * 2 + j, none⟩ = some u) (hl : L.length ≤ 3518437208781)
    (hK : ∀ W, Below w.heap.size w W → ∀ (i : Nat) (h : i < L.length), Calls Tryz.prog 60 #[.agg #[.string L[i].name, L[i].rv]] W fun e W' => e = .returned (.bool (p L[i])) ∧ Below W.heap.size W W') :
    Calls Tryz.prog 57 #[.slice a L.length c, .func (.func 60) #[] #[]] w fun e w' => e = .returned (.bool (L.all p)) ∧ Below w.heap.size w w' := by
  have hmf : ∀ (fn : Fn) (first cap : Array Value) (w : World), (Instr.makeFunc fn first cap).run Tryz.prog w = .ok (.func fn first cap) w := fun _ _ _ _ => rfl
  have hc := cntD L a c w.heap.size p (w.alloc (.cells #[.func (.func 60) #[] #[]] 87)) (hL.imp id (fun ⟨g, o, e1, e2, e3⟩ => ⟨g, o, e1, by simp; omega, fun i h j u hu => (bel1.cell (p := ⟨g, _, none⟩) e2).trans (e3 i h j u hu)⟩)) hl (by
    intro W hW i hi
    refine cloD58 L[i] w.heap.size (p L[i]) W ?_ (fun W2 hW2 => hK W2 (belT (belT bel1 hW) hW2) i hi)
    rw [hW.cell (p := ⟨w.heap.size, 0, none⟩) (by simp)]
    exact (Has.new w #[_] 87 rfl).2.1 0)
  generalize L.all p = R at *
  clear hL hK
  go_enter Tryz.func57, Tryz.ntmps57
  go_wp2_with (go_at_call 89; (with_reducible refine hc.mono ?_); rintro e w' ⟨rfl, hb2⟩)
  go_ret
  exact ⟨by simp, belT bel1 hb2⟩
set_option maxRecDepth 100000 in
set_option maxHeartbeats 2000000 in
theorem cloD63 (x : Dk) (b : Nat) (B : Bool) (w : World) (hb : w.cell? ⟨b, 0, none⟩ = some (.func (.func 65) #[] #[]))
    (hK : ∀ W, Below w.heap.size w W → Calls Tryz.prog 65 #[.agg #[.string x.name, x.rv]] W fun e W' => e = .returned (.bool B) ∧ Below W.heap.size W W') :
    Calls Tryz.prog 90 #[.agg #[.string x.name, x.rv], .pointer (some ⟨b, 0, none⟩)] w fun e w' => e = .returned (.bool (!B)) ∧ Below w.heap.size w w' := by
  have hlt : b < w.heap.size := cell_ltF hb
  obtain ⟨x0, x1, x2⟩ := x
  dsimp only at *
  go_enter Tryz.func90, Tryz.ntmps90
  go_wp2_with (go_at_call 65; (with_reducible refine (hK _ bel1).mono ?_); rintro e w' ⟨rfl, hb2⟩)
  go_ret
  exact ⟨rfl, belT bel1 hb2⟩
set_option maxRecDepth 100000 in
set_option maxHeartbeats 2000000 in
theorem allD63 (L : List Dk) (a : Option Addr) (c : Nat) (p : Dk → Bool) (w : World) (hL : L = [] ∨ ∃ g o, a = some ⟨g, o, none⟩ ∧ g < w.heap.size ∧ ∀ (i : Nat) (h : i < L.length) (j : Nat) (u : Value), (Dk.cs L[i])[j]? = some u → w.cell? ⟨g, o + i * 2 + j, none⟩ = some u) (hl : L.length ≤ 3518437208781)
    (hK : ∀ W, Below w.heap.size w W → ∀ (i : Nat) (h : i < L.length), Calls Tryz.prog 65 #[.agg #[.string L[i].name, L[i].rv]] W fun e W' => e = .returned (.bool (p L[i])) ∧ Below W.heap.size W W') :
    Calls Tryz.prog 57 #[.slice a L.length c, .func (.func 65) #[] #[]] w fun e w' => e = .returned (.bool (L.all p)) ∧ Below w.heap.size w w' := by
  have hmf : ∀ (fn : Fn) (first cap : Array Value) (w : World), (Instr.makeFunc fn first cap).run Tryz.prog w = .ok (.func fn first cap) w := fun _ _ _ _ => rfl
  have hc := cntD L a c w.heap.size p (w.alloc (.cells #[.func (.func 65) #[] #[]] 87)) (hL.imp id (fun ⟨g, o, e1, e2, e3⟩ => ⟨g, o, e1, by simp; omega, fun i h j u hu => (bel1.cell (p := ⟨g, _, none⟩) e2).trans (e3 i h j u hu)⟩)) hl (by
    intro W hW i hi
    refine cloD63 L[i] w.heap.size (p L[i]) W ?_ (fun W2 hW2 => hK W2 (belT (belT bel1 hW) hW2) i hi)
    rw [hW.cell (p := ⟨w.heap.size, 0, none⟩) (by simp)]
    exact (Has.new w #[_] 87 rfl).2.1 0)
  generalize L.all p = R at *
  clear hL hK
  go_enter Tryz.func57, Tryz.ntmps57
  go_wp2_with (go_at_call 89; (with_reducible refine hc.mono ?_); rintro e w' ⟨rfl, hb2⟩)
  go_ret
  exact ⟨by simp, belT bel1 hb2⟩
set_option maxRecDepth 100000 in
set_option maxHeartbeats 2000000 in
theorem cloD79 (x : Dk) (b : Nat) (B : Bool) (w : World) (hb : w.cell? ⟨b, 0, none⟩ = some (.func (.func 81) #[] #[]))
    (hK : ∀ W, Below w.heap.size w W → Calls Tryz.prog 81 #[.agg #[.string x.name, x.rv]] W fun e W' => e = .returned (.bool B) ∧ Below W.heap.size W W') :
    Calls Tryz.prog 90 #[.agg #[.string x.name, x.rv], .pointer (some ⟨b, 0, none⟩)] w fun e w' => e = .returned (.bool (!B)) ∧ Below w.heap.size w w' := by
  have hlt : b < w.heap.size := cell_ltF hb
  obtain ⟨x0, x1, x2⟩ := x
  dsimp only at *
  go_enter Tryz.func90, Tryz.ntmps90
  go_wp2_with (go_at_call 81; (with_reducible refine (hK _ bel1).mono ?_); rintro e w' ⟨rfl, hb2⟩)
  go_ret
  exact ⟨rfl, belT bel1 hb2⟩
set_option maxRecDepth 100000 in
set_option maxHeartbeats 2000000 in
theorem allD79 (L : List Dk) (a : Option Addr) (c : Nat) (p : Dk → Bool) (w : World) (hL : L = [] ∨ ∃ g o, a = some ⟨g, o, none⟩ ∧ g < w.heap.size ∧ ∀ (i : Nat) (h : i < L.length) (j : Nat) (u : Value), (Dk.cs L[i])[j]? = some u → w.cell? ⟨g, o + i * 2 + j, none⟩ = some u) (hl : L.length ≤ 3518437208781)
    (hK : ∀ W, Below w.heap.size w W → ∀ (i : Nat) (h : i < L.length), Calls Tryz.prog 81 #[.agg #[.string L[i].name, L[i].rv]] W fun e W' => e = .returned (.bool (p L[i])) ∧ Below W.heap.size W W') :
    Calls Tryz.prog 57 #[.slice a L.length c, .func (.func 81) #[] #[]] w fun e w' => e = .returned (.bool (L.all p)) ∧ Below w.heap.size w w' := by
  have hmf : ∀ (fn : Fn) (first cap : Array Value) (w : World), (Instr.makeFunc fn first cap).run Tryz.prog w = .ok (.func fn first cap) w := fun _ _ _ _ => rfl
  have hc := cntD L a c w.heap.size p (w.alloc (.cells #[.func (.func 81) #[] #[]] 87)) (hL.imp id (fun ⟨g, o, e1, e2, e3⟩ => ⟨g, o, e1, by simp; omega, fun i h j u hu => (bel1.cell (p := ⟨g, _, none⟩) e2).trans (e3 i h j u hu)⟩)) hl (by
    intro W hW i hi
    refine cloD79 L[i] w.heap.size (p L[i]) W ?_ (fun W2 hW2 => hK W2 (belT (belT bel1 hW) hW2) i hi)
    rw [hW.cell (p := ⟨w.heap.size, 0, none⟩) (by simp)]
    exact (Has.new w #[_] 87 rfl).2.1 0)
  generalize L.all p = R at *
  clear hL hK
  go_enter Tryz.func57, Tryz.ntmps57
  go_wp2_with (go_at_call 89; (with_reducible refine hc.mono ?_); rintro e w' ⟨rfl, hb2⟩)
  go_ret
  exact ⟨by simp, belT bel1 hb2⟩
set_option maxRecDepth 100000 in
set_option maxHeartbeats 2000000 in
theorem idxR (L : List Rw) (a : Option Addr) (c b : Nat) (p : Rw → Bool) (w : World) (hL : L = [] ∨ ∃ g o, a = some ⟨g, o, none⟩ ∧ g < w.heap.size ∧ ∀ (i : Nat) (h : i < L.length) (j : Nat) (u : Value), (Rw.cs L[i])[j]? = some u → w.cell? ⟨g, o + i * 2 + j, none⟩ = some u) (hl : L.length ≤ 8796093021952)
    (hC : ∀ W, Below w.heap.size w W → ∀ (i : Nat) (h : i < L.length), Calls Tryz.prog 92 #[.agg #[.int .i64 L[i].m, .int .i64 L[i].s], .pointer (some ⟨b, 0, none⟩)] W fun e W' => e = .returned (.bool (!p L[i])) ∧ Below W.heap.size W W') :
    Calls Tryz.prog 102 #[.slice a L.length c, .func (.func 92) #[] #[.pointer (some ⟨b, 0, none⟩)]] w fun e w' => IxP e (L.all p) ∧ Below w.heap.size w w' := by
  have hC' : Hid (∀ W, Below w.heap.size w W → ∀ (i : Nat) (h : i < L.length), Calls Tryz.prog 92 #[.agg #[.int .i64 L[i].m, .int .i64 L[i].s], .pointer (some ⟨b, 0, none⟩)] W fun e W' => e = .returned (.bool (!p L[i])) ∧ Below W.heap.size W W') := hC
  clear hC
  go_enter Tryz.func102, Tryz.ntmps102
  go_wp2
  go_loopg [5, 8] L.length (fun gk s5 s8 wr => ∃ k : Nat, k + gk = L.length ∧ s8 = .int .i64 (k : Int) ∧ Hid ((L.drop k).all p = L.all p) ∧ Below w.heap.size w wr)
  case atStart => exact ⟨0, by omega, rfl, by show _ = _; simp, Below.refl _ _⟩
  case round =>
    obtain ⟨k, hk, rfl, hA, hb⟩ := hrel
    by_cases hlt : k < L.length
    · obtain ⟨g, o, rfl, hg, P⟩ := hL.resolve_left (by intro e; rw [e] at hlt; simp at hlt)
      have p0 := (hb.cell (p := ⟨g, _, none⟩) hg).trans (P k hlt 0 _ rfl)
      have p1 := (hb.cell (p := ⟨g, _, none⟩) hg).trans (P k hlt 1 _ rfl)
      simp only [Nat.add_zero] at p0
      have t1 : (k : Int) < (L.length : Int) := by omega
      have t0 : (0 : Int) ≤ (k : Int) := by omega
      have hc := hC'.out wr hb k hlt
      have hs := all_drop p L k hlt
      have hE : Hid (L.all p = (p L[k] && (L.drop (k + 1)).all p)) := by show _ = _; rw [← hA.out, hs]
      clear hs hA P hL
      cases hp : p L[k] with
      | true =>
        rw [hp] at hc
        have hE2 : Hid ((L.drop (k + 1)).all p = L.all p) := by show _ = _; rw [hE.out, hp]; rfl
        clear hE hp
        go_wp2_with (go_at_call 92; (with_reducible refine hc.mono ?_); rintro e w' ⟨rfl, hb2⟩)
        go_roundg (gk - 1)
        case measure => go_light; omega
        case rel => exact ⟨k + 1, by omega, by go_num, hE2, belT hb hb2⟩
      | false =>
        rw [hp] at hc
        have hE2 : Hid (L.all p = false) := by show _ = _; rw [hE.out, hp]; rfl
        clear hE hp
        go_wp2_with (go_at_call 92; (with_reducible refine hc.mono ?_); rintro e w' ⟨rfl, hb2⟩)
        go_ret
        exact ⟨⟨_, rfl, by rw [hE2.out]; simp⟩, belT hb hb2⟩
    · obtain rfl : k = L.length := by omega
      have t1 : ¬ (L.length : Int) < (L.length : Int) := by omega
      have hE2 : Hid (L.all p = true) := by show _ = _; rw [← hA.out]; simp
      clear hL
      go_wp2
      go_ret
      exact ⟨⟨_, rfl, by rw [hE2.out]; rfl⟩, hb⟩
set_option maxRecDepth 100000 in
set_option maxHeartbeats 2000000 in
theorem cntR (L : List Rw) (a : Option Addr) (c b : Nat) (p : Rw → Bool) (w : World) (hL : L = [] ∨ ∃ g o, a = some ⟨g, o, none⟩ ∧ g < w.heap.size ∧ ∀ (i : Nat) (h : i < L.length) (j : Nat) (u : Value), (Rw.cs L[i])[j]? = some u → w.cell? ⟨g, o + i * 2 + j, none⟩ = some u) (hl : L.length ≤ 8796093021952)
    (hC : ∀ W, Below w.heap.size w W → ∀ (i : Nat) (h : i < L.length), Calls Tryz.prog 92 #[.agg #[.int .i64 L[i].m, .int .i64 L[i].s], .pointer (some ⟨b, 0, none⟩)] W fun e W' => e = .returned (.bool (!p L[i])) ∧ Below W.heap.size W W') :
    Calls Tryz.prog 91 #[.slice a L.length c, .func (.func 92) #[] #[.pointer (some ⟨b, 0, none⟩)]] w fun e w' => e = .returned (.bool (!L.all p)) ∧ Below w.heap.size w w' := by
  have hc := idxR L a c b p w hL hl hC
  generalize L.all p = R at *
  clear hL hC
  go_enter Tryz.func91, Tryz.ntmps91
  go_wp2_with (go_at_call 102; (with_reducible refine hc.mono ?_); rintro e w' ⟨⟨z, rfl, hz⟩, hb2⟩)
  go_ret
  exact ⟨rfl, hb2⟩
set_option maxRecDepth 100000 in
set_option maxHeartbeats 2000000 in
theorem cloR65 (x : Rw) (b : Nat) (B : Bool) (w : World) (hb : w.cell? ⟨b, 0, none⟩ = some (.func (.func 67) #[] #[]))
    (hK : ∀ W, Below w.heap.size w W → Calls Tryz.prog 67 #[.agg #[.int .i64 x.m, .int .i64 x.s]] W fun e W' => e = .returned (.bool B) ∧ Below W.heap.size W W') :
    Calls Tryz.prog 92 #[.agg #[.int .i64 x.m, .int .i64 x.s], .pointer (some ⟨b, 0, none⟩)] w fun e w' => e = .returned (.bool (!B)) ∧ Below w.heap.size w w' := by
  have hlt : b < w.heap.size := cell_ltF hb
  obtain ⟨x0, x1⟩ := x
  dsimp only at *
  go_enter Tryz.func92, Tryz.ntmps92
  go_wp2_with (go_at_call 67; (with_reducible refine (hK _ bel1).mono ?_); rintro e w' ⟨rfl, hb2⟩)
  go_ret
  exact ⟨rfl, belT bel1 hb2⟩
set_option maxRecDepth 100000 in
set_option maxHeartbeats 2000000 in
theorem allR65 (L : List Rw) (a : Option Addr) (c : Nat) (p : Rw → Bool) (w : World) (hL : L = [] ∨ ∃ g o, a = some ⟨g, o, none⟩ ∧ g < w.heap.size ∧ ∀ (i : Nat) (h : i < L.length) (j : Nat) (u : Value), (Rw.cs L[i])[j]? = some u → w.cell? ⟨g, o + i * 2 + j, none⟩ = some u) (hl : L.length ≤ 8796093021952)
    (hK : ∀ W, Below w.heap.size w W → ∀ (i : Nat) (h : i < L.length), Calls Tryz.prog 67 #[.agg #[.int .i64 L[i].m, .int .i64 L[i].s]] W fun e W' => e = .returned (.bool (p L[i])) ∧ Below W.heap.size W W') :
    Calls Tryz.prog 66 #[.slice a L.length c, .func (.func 67) #[] #[]] w fun e w' => e = .returned (.bool (L.all p)) ∧ Below w.heap.size w w' := by
  have hmf : ∀ (fn : Fn) (first cap : Array Value) (w : World), (Instr.makeFunc fn first cap).run Tryz.prog w = .ok (.func fn first cap) w := fun _ _ _ _ => rfl
  have hc := cntR L a c w.heap.size p (w.alloc (.cells #[.func (.func 67) #[] #[]] 93)) (hL.imp id (fun ⟨g, o, e1, e2, e3⟩ => ⟨g, o, e1, by simp; omega, fun i h j u hu => (bel1.cell (p := ⟨g, _, none⟩) e2).trans (e3 i h j u hu)⟩)) hl (by
    intro W hW i hi
    refine cloR65 L[i] w.heap.size (p L[i]) W ?_ (fun W2 hW2 => hK W2 (belT (belT bel1 hW) hW2) i hi)
    rw [hW.cell (p := ⟨w.heap.size, 0, none⟩) (by simp)]
    exact (Has.new w #[_] 93 rfl).2.1 0)
  generalize L.all p = R at *
  clear hL hK
  go_enter Tryz.func66, Tryz.ntmps66
  go_wp2_with (go_at_call 91; (with_reducible refine hc.mono ?_); rintro e w' ⟨rfl, hb2⟩)
  go_ret
  exact ⟨by simp, belT bel1 hb2⟩
set_option maxRecDepth 100000 in
set_option maxHeartbeats 2000000 in
theorem idxH (L : List Sh) (a : Option Addr) (c b : Nat) (p : Sh → Bool) (w : World) (hL : L = [] ∨ ∃ g o, a = some ⟨g, o, none⟩ ∧ g < w.heap.size ∧ ∀ (i : Nat) (h : i < L.length) (j : Nat) (u : Value), (Sh.cs L[i])[j]? = some u → w.cell? ⟨g, o + i * 2 + j, none⟩ = some u) (hl : L.length ≤ 8796093021952)
    (hC : ∀ W, Below w.heap.size w W → ∀ (i : Nat) (h : i < L.length), Calls Tryz.prog 94 #[.agg #[.int .i64 L[i].m, .int .i64 L[i].plus], .pointer (some ⟨b, 0, none⟩)] W fun e W' => e = .returned (.bool (!p L[i])) ∧ Below W.heap.size W W') :
    Calls Tryz.prog 103 #[.slice a L.length c, .func (.func 94) #[] #[.pointer (some ⟨b, 0, none⟩)]] w fun e w' => IxP e (L.all p) ∧ Below w.heap.size w w' := by
  have hC' : Hid (∀ W, Below w.heap.size w W → ∀ (i : Nat) (h : i < L.length), Calls Tryz.prog 94 #[.agg #[.int .i64 L[i].m, .int .i64 L[i].plus], .pointer (some ⟨b, 0, none⟩)] W fun e W' => e = .returned (.bool (!p L[i])) ∧ Below W.heap.size W W') := hC
  clear hC
  go_enter Tryz.func103, Tryz.ntmps103
  go_wp2
  go_loopg [5, 8] L.length (fun gk s5 s8 wr => ∃ k : Nat, k + gk = L.length ∧ s8 = .int .i64 (k : Int) ∧ Hid ((L.drop k).all p = L.all p) ∧ Below w.heap.size w wr)
  case atStart => exact ⟨0, by omega, rfl, by show _ = _; simp, Below.refl _ _⟩
  case round =>
    obtain ⟨k, hk, rfl, hA, hb⟩ := hrel
    by_cases hlt : k < L.length
    · obtain ⟨g, o, rfl, hg, P⟩ := hL.resolve_left (by intro e; rw [e] at hlt; simp at hlt)
      have p0 := (hb.cell (p := ⟨g, _, none⟩) hg).trans (P k hlt 0 _ rfl)
      have p1 := (hb.cell (p := ⟨g, _, none⟩) hg).trans (P k hlt 1 _ rfl)
      simp only [Nat.add_zero] at p0
      have t1 : (k : Int) < (L.length : Int) := by omega
      have t0 : (0 : Int) ≤ (k : Int) := by omega
      have hc := hC'.out wr hb k hlt
      have hs := all_drop p L k hlt
      have hE : Hid (L.all p = (p L[k] && (L.drop (k + 1)).all p)) := by show _ = _; rw [← hA.out, hs]
      clear hs hA P hL
      cases hp : p L[k] with
      | true =>
        rw [hp] at hc
        have hE2 : Hid ((L.drop (k + 1)).all p = L.all p) := by show _ = _; rw [hE.out, hp]; rfl
        clear hE hp
        go_wp2_with (go_at_call 94; (with_reducible refine hc.mono ?_); rintro e w' ⟨rfl, hb2⟩)
        go_roundg (gk - 1)
        case measure => go_light; omega
        case rel => exact ⟨k + 1, by omega, by go_num, hE2, belT hb hb2⟩
      | false =>
        rw [hp] at hc
        have hE2 : Hid (L.all p = false) := by show _ = _; rw [hE.out, hp]; rfl
        clear hE hp
        go_wp2_with (go_at_call 94; (with_reducible refine hc.mono ?_); rintro e w' ⟨rfl, hb2⟩)
        go_ret
        exact ⟨⟨_, rfl, by rw [hE2.out]; simp⟩, belT hb hb2⟩
    · obtain rfl : k = L.length := by omega
      have t1 : ¬ (L.length : Int) < (L.length : Int) := by omega
      have hE2 : Hid (L.all p = true) := by show _ = _; rw [← hA.out]; simp
      clear hL
      go_wp2
      go_ret
      exact ⟨⟨_, rfl, by rw [hE2.out]; rfl⟩, hb⟩
set_option maxRecDepth 100000 in
set_option maxHeartbeats 2000000 in
theorem cntH (L : List Sh) (a : Option Addr) (c b : Nat) (p : Sh → Bool) (w : World) (hL : L = [] ∨ ∃ g o, a = some ⟨g, o, none⟩ ∧ g < w.heap.size ∧ ∀ (i : Nat) (h : i < L.length) (j : Nat) (u : Value), (Sh.cs L[i])[j]? = some u → w.cell? ⟨g, o + i * 2 + j, none⟩ = some u) (hl : L.length ≤ 8796093021952)
    (hC : ∀ W, Below w.heap.size w W → ∀ (i : Nat) (h : i < L.length), Calls Tryz.prog 94 #[.agg #[.int .i64 L[i].m, .int .i64 L[i].plus], .pointer (some ⟨b, 0, none⟩)] W fun e W' => e = .returned (.bool (!p L[i])) ∧ Below W.heap.size W W') :
    Calls Tryz.prog 93 #[.slice a L.length c, .func (.func 94) #[] #[.pointer (some ⟨b, 0, none⟩)]] w fun e w' => e = .returned (.bool (!L.all p)) ∧ Below w.heap.size w w' := by
  have hc := idxH L a c b p w hL hl hC
  generalize L.all p = R at *
  clear hL hC
  go_enter Tryz.func93, Tryz.ntmps93
  go_wp2_with (go_at_call 103; (with_reducible refine hc.mono ?_); rintro e w' ⟨⟨z, rfl, hz⟩, hb2⟩)
  go_ret
  exact ⟨rfl, hb2⟩
set_option maxRecDepth 100000 in
set_option maxHeartbeats 2000000 in
theorem cloH67 (x : Sh) (b : Nat) (B : Bool) (w : World) (hb : w.cell? ⟨b, 0, none⟩ = some (.func (.func 69) #[] #[]))
    (hK : ∀ W, Below w.heap.size w W → Calls Tryz.prog 69 #[.agg #[.int .i64 x.m, .int .i64 x.plus]] W fun e W' => e = .returned (.bool B) ∧ Below W.heap.size W W') :
    Calls Tryz.prog 94 #[.agg #[.int .i64 x.m, .int .i64 x.plus], .pointer (some ⟨b, 0, none⟩)] w fun e w' => e = .returned (.bool (!B)) ∧ Below w.heap.size w w' := by
  have hlt : b < w.heap.size := cell_ltF hb
  obtain ⟨x0, x1⟩ := x
  dsimp only at *
  go_enter Tryz.func94, Tryz.ntmps94
  go_wp2_with (go_at_call 69; (with_reducible refine (hK _ bel1).mono ?_); rintro e w' ⟨rfl, hb2⟩)
  go_ret
  exact ⟨rfl, belT bel1 hb2⟩
set_option maxRecDepth 100000 in
set_option maxHeartbeats 2000000 in
theorem allH67 (L : List Sh) (a : Option Addr) (c : Nat) (p : Sh → Bool) (w : World) (hL : L = [] ∨ ∃ g o, a = some ⟨g, o, none⟩ ∧ g < w.heap.size ∧ ∀ (i : Nat) (h : i < L.length) (j : Nat) (u : Value), (Sh.cs L[i])[j]? = some u → w.cell? ⟨g, o + i * 2 + j, none⟩ = some u) (hl : L.length ≤ 8796093021952)
    (hK : ∀ W, Below w.heap.size w W → ∀ (i : Nat) (h : i < L.length), Calls Tryz.prog 69 #[.agg #[.int .i64 L[i].m, .int .i64 L[i].plus]] W fun e W' => e = .returned (.bool (p L[i])) ∧ Below W.heap.size W W') :
    Calls Tryz.prog 68 #[.slice a L.length c, .func (.func 69) #[] #[]] w fun e w' => e = .returned (.bool (L.all p)) ∧ Below w.heap.size w w' := by
  have hmf : ∀ (fn : Fn) (first cap : Array Value) (w : World), (Instr.makeFunc fn first cap).run Tryz.prog w = .ok (.func fn first cap) w := fun _ _ _ _ => rfl
  have hc := cntH L a c w.heap.size p (w.alloc (.cells #[.func (.func 69) #[] #[]] 95)) (hL.imp id (fun ⟨g, o, e1, e2, e3⟩ => ⟨g, o, e1, by simp; omega, fun i h j u hu => (bel1.cell (p := ⟨g, _, none⟩) e2).trans (e3 i h j u hu)⟩)) hl (by
    intro W hW i hi
    refine cloH67 L[i] w.heap.size (p L[i]) W ?_ (fun W2 hW2 => hK W2 (belT (belT bel1 hW) hW2) i hi)
    rw [hW.cell (p := ⟨w.heap.size, 0, none⟩) (by simp)]
    exact (Has.new w #[_] 95 rfl).2.1 0)
  generalize L.all p = R at *
  clear hL hK
  go_enter Tryz.func68, Tryz.ntmps68
  go_wp2_with (go_at_call 93; (with_reducible refine hc.mono ?_); rintro e w' ⟨rfl, hb2⟩)
  go_ret
  exact ⟨by simp, belT bel1 hb2⟩
set_option maxRecDepth 100000 in
set_option maxHeartbeats 2000000 in
theorem cloH74 (x : Sh) (b : Nat) (B : Bool) (w : World) (hb : w.cell? ⟨b, 0, none⟩ = some (.func (.func 76) #[] #[]))
    (hK : ∀ W, Below w.heap.size w W → Calls Tryz.prog 76 #[.agg #[.int .i64 x.m, .int .i64 x.plus]] W fun e W' => e = .returned (.bool B) ∧ Below W.heap.size W W') :
    Calls Tryz.prog 94 #[.agg #[.int .i64 x.m, .int .i64 x.plus], .pointer (some ⟨b, 0, none⟩)] w fun e w' => e = .returned (.bool (!B)) ∧ Below w.heap.size w w' := by
  have hlt : b < w.heap.size := cell_ltF hb
  obtain ⟨x0, x1⟩ := x
  dsimp only at *
  go_enter Tryz.func94, Tryz.ntmps94
  go_wp2_with (go_at_call 76; (with_reducible refine (hK _ bel1).mono ?_); rintro e w' ⟨rfl, hb2⟩)
  go_ret
  exact ⟨rfl, belT bel1 hb2⟩
set_option maxRecDepth 100000 in
set_option maxHeartbeats 2000000 in
theorem allH74 (L : List Sh) (a : Option Addr) (c : Nat) (p : Sh → Bool) (w : World) (hL : L = [] ∨ ∃ g o, a = some ⟨g, o, none⟩ ∧ g < w.heap.size ∧ ∀ (i : Nat) (h : i < L.length) (j : Nat) (u : Value), (Sh.cs L[i])[j]? = some u → w.cell? ⟨g, o + i * 2 + j, none⟩ = some u) (hl : L.length ≤ 8796093021952)
    (hK : ∀ W, Below w.heap.size w W → ∀ (i : Nat) (h : i < L.length), Calls Tryz.prog 76 #[.agg #[.int .i64 L[i].m, .int .i64 L[i].plus]] W fun e W' => e = .returned (.bool (p L[i])) ∧ Below W.heap.size W W') :
    Calls Tryz.prog 68 #[.slice a L.length c, .func (.func 76) #[] #[]] w fun e w' => e = .returned (.bool (L.all p)) ∧ Below w.heap.size w w' := by
  have hmf : ∀ (fn : Fn) (first cap : Array Value) (w : World), (Instr.makeFunc fn first cap).run Tryz.prog w = .ok (.func fn first cap) w := fun _ _ _ _ => rfl
  have hc := cntH L a c w.heap.size p (w.alloc (.cells #[.func (.func 76) #[] #[]] 95)) (hL.imp id (fun ⟨g, o, e1, e2, e3⟩ => ⟨g, o, e1, by simp; omega, fun i h j u hu => (bel1.cell (p := ⟨g, _, none⟩) e2).trans (e3 i h j u hu)⟩)) hl (by
    intro W hW i hi
    refine cloH74 L[i] w.heap.size (p L[i]) W ?_ (fun W2 hW2 => hK W2 (belT (belT bel1 hW) hW2) i hi)
    rw [hW.cell (p := ⟨w.heap.size, 0, none⟩) (by simp)]
    exact (Has.new w #[_] 95 rfl).2.1 0)
  generalize L.all p = R at *
  clear hL hK
  go_enter Tryz.func68, Tryz.ntmps68
  go_wp2_with (go_at_call 93; (with_reducible refine hc.mono ?_); rintro e w' ⟨rfl, hb2⟩)
  go_ret
  exact ⟨by simp, belT bel1 hb2⟩
set_option maxRecDepth 100000 in
set_option maxHeartbeats 2000000 in
theorem idxS (L : List Sn) (a : Option Addr) (c b : Nat) (p : Sn → Bool) (w : World) (hL : L = [] ∨ ∃ g o, a = some ⟨g, o, none⟩ ∧ g < w.heap.size ∧ ∀ (i : Nat) (h : i < L.length) (j : Nat) (u : Value), (Sn.cs L[i])[j]? = some u → w.cell? ⟨g, o + i * 9 + j, none⟩ = some u) (hl : L.length ≤ 1954687338211)
    (hC : ∀ W, Below w.heap.size w W → ∀ (i : Nat) (h : i < L.length), Calls Tryz.prog 96 #[.agg #[.int .i64 L[i].fr, .int .i64 L[i].till, .int .i64 L[i].w0, .int .i64 L[i].w1, .int .i64 L[i].w2, .int .i64 L[i].w3, .int .i64 L[i].w4, .int .i64 L[i].w5, .int .i64 L[i].w6], .pointer (some ⟨b, 0, none⟩)] W fun e W' => e = .returned (.bool (!p L[i])) ∧ Below W.heap.size W W') :
    Calls Tryz.prog 104 #[.slice a L.length c, .func (.func 96) #[] #[.pointer (some ⟨b, 0, none⟩)]] w fun e w' => IxP e (L.all p) ∧ Below w.heap.size w w' := by
  have hC' : Hid (∀ W, Below w.heap.size w W → ∀ (i : Nat) (h : i < L.length), Calls Tryz.prog 96 #[.agg #[.int .i64 L[i].fr, .int .i64 L[i].till, .int .i64 L[i].w0, .int .i64 L[i].w1, .int .i64 L[i].w2, .int .i64 L[i].w3, .int .i64 L[i].w4, .int .i64 L[i].w5, .int .i64 L[i].w6], .pointer (some ⟨b, 0, none⟩)] W fun e W' => e = .returned (.bool (!p L[i])) ∧ Below W.heap.size W W') := hC
  clear hC
  go_enter Tryz.func104, Tryz.ntmps104
  go_wp2
  go_loopg [5, 8] L.length (fun gk s5 s8 wr => ∃ k : Nat, k + gk = L.length ∧ s8 = .int .i64 (k : Int) ∧ Hid ((L.drop k).all p = L.all p) ∧ Below w.heap.size w wr)
  case atStart => exact ⟨0, by omega, rfl, by show _ = _; simp, Below.refl _ _⟩
  case round =>
    obtain ⟨k, hk, rfl, hA, hb⟩ := hrel
    by_cases hlt : k < L.length
    · obtain ⟨g, o, rfl, hg, P⟩ := hL.resolve_left (by intro e; rw [e] at hlt; simp at hlt)
      have p0 := (hb.cell (p := ⟨g, _, none⟩) hg).trans (P k hlt 0 _ rfl)
      have p1 := (hb.cell (p := ⟨g, _, none⟩) hg).trans (P k hlt 1 _ rfl)
      have p2 := (hb.cell (p := ⟨g, _, none⟩) hg).trans (P k hlt 2 _ rfl)
      have p3 := (hb.cell (p := ⟨g, _, none⟩) hg).trans (P k hlt 3 _ rfl)
      have p4 := (hb.cell (p := ⟨g, _, none⟩) hg).trans (P k hlt 4 _ rfl)
      have p5 := (hb.cell (p := ⟨g, _, none⟩) hg).trans (P k hlt 5 _ rfl)
      have p6 := (hb.cell (p := ⟨g, _, none⟩) hg).trans (P k hlt 6 _ rfl)
      have p7 := (hb.cell (p := ⟨g, _, none⟩) hg).trans (P k hlt 7 _ rfl)
      have p8 := (hb.cell (p := ⟨g, _, none⟩) hg).trans (P k hlt 8 _ rfl)
      simp only [Nat.add_zero] at p0
      have t1 : (k : Int) < (L.length : Int) := by omega
      have t0 : (0 : Int) ≤ (k : Int) := by omega
      have hc := hC'.out wr hb k hlt
      have hs := all_drop p L k hlt
      have hE : Hid (L.all p = (p L[k] && (L.drop (k + 1)).all p)) := by show _ = _; rw [← hA.out, hs]
      clear hs hA P hL
      cases hp : p L[k] with
      | true =>
        rw [hp] at hc
        have hE2 : Hid ((L.drop (k + 1)).all p = L.all p) := by show _ = _; rw [hE.out, hp]; rfl
        clear hE hp
        go_wp2_with (go_at_call 96; (with_reducible refine hc.mono ?_); rintro e w' ⟨rfl, hb2⟩)
        go_roundg (gk - 1)
        case measure => go_light; omega
        case rel => exact ⟨k + 1, by omega, by go_num, hE2, belT hb hb2⟩
      | false =>
        rw [hp] at hc
        have hE2 : Hid (L.all p = false) := by show _ = _; rw [hE.out, hp]; rfl
        clear hE hp
        go_wp2_with (go_at_call 96; (with_reducible refine hc.mono ?_); rintro e w' ⟨rfl, hb2⟩)
        go_ret
        exact ⟨⟨_, rfl, by rw [hE2.out]; simp⟩, belT hb hb2⟩
    · obtain rfl : k = L.length := by omega
      have t1 : ¬ (L.length : Int) < (L.length : Int) := by omega
      have hE2 : Hid (L.all p = true) := by show _ = _; rw [← hA.out]; simp
      clear hL
      go_wp2
      go_ret
      exact ⟨⟨_, rfl, by rw [hE2.out]; rfl⟩, hb⟩
set_option maxRecDepth 100000 in
set_option maxHeartbeats 2000000 in
theorem cntS (L : List Sn) (a : Option Addr) (c b : Nat) (p : Sn → Bool) (w : World) (hL : L = [] ∨ ∃ g o, a = some ⟨g, o, none⟩ ∧ g < w.heap.size ∧ ∀ (i : Nat) (h : i < L.length) (j : Nat) (u : Value), (Sn.cs L[i])[j]? = some u → w.cell? ⟨g, o + i * 9 + j, none⟩ = some u) (hl : L.length ≤ 1954687338211)
    (hC : ∀ W, Below w.heap.size w W → ∀ (i : Nat) (h : i < L.length), Calls Tryz.prog 96 #[.agg #[.int .i64 L[i].fr, .int .i64 L[i].till, .int .i64 L[i].w0, .int .i64 L[i].w1, .int .i64 L[i].w2, .int .i64 L[i].w3, .int .i64 L[i].w4, .int .i64 L[i].w5, .int .i64 L[i].w6], .pointer (some ⟨b, 0, none⟩)] W fun e W' => e = .returned (.bool (!p L[i])) ∧ Below W.heap.size W W') :
    Calls Tryz.prog 95 #[.slice a L.length c, .func (.func 96) #[] #[.pointer (some ⟨b, 0, none⟩)]] w fun e w' => e = .returned (.bool (!L.all p)) ∧ Below w.heap.size w w' := by
  have hc := idxS L a c b p w hL hl hC
  generalize L.all p = R at *
  clear hL hC
  go_enter Tryz.func95, Tryz.ntmps95
  go_wp2_with (go_at_call 104; (with_reducible refine hc.mono ?_); rintro e w' ⟨⟨z, rfl, hz⟩, hb2⟩)
  go_ret
  exact ⟨rfl, hb2⟩
set_option maxRecDepth 100000 in
set_option maxHeartbeats 2000000 in
theorem cloS70 (x : Sn) (b : Nat) (B : Bool) (w : World) (hb : w.cell? ⟨b, 0, none⟩ = some (.func (.func 72) #[] #[]))
    (hK : ∀ W, Below w.heap.size w W → Calls Tryz.prog 72 #[.agg #[.int .i64 x.fr, .int .i64 x.till, .int .i64 x.w0, .int .i64 x.w1, .int .i64 x.w2, .int .i64 x.w3, .int .i64 x.w4, .int .i64 x.w5, .int .i64 x.w6]] W fun e W' => e = .returned (.bool B) ∧ Below W.heap.size W W') :
    Calls Tryz.prog 96 #[.agg #[.int .i64 x.fr, .int .i64 x.till, .int .i64 x.w0, .int .i64 x.w1, .int .i64 x.w2, .int .i64 x.w3, .int .i64 x.w4, .int .i64 x.w5, .int .i64 x.w6], .pointer (some ⟨b, 0, none⟩)] w fun e w' => e = .returned (.bool (!B)) ∧ Below w.heap.size w w' := by
  have hlt : b < w.heap.size := cell_ltF hb
  obtain ⟨x0, x1, x2, x3, x4, x5, x6, x7, x8⟩ := x
  dsimp only at *
  go_enter Tryz.func96, Tryz.ntmps96
  go_wp2_with (go_at_call 72; (with_reducible refine (hK _ bel1).mono ?_); rintro e w' ⟨rfl, hb2⟩)
  go_ret
  exact ⟨rfl, belT bel1 hb2⟩
set_option maxRecDepth 100000 in
set_option maxHeartbeats 2000000 in
theorem allS70 (L : List Sn) (a : Option Addr) (c : Nat) (p : Sn → Bool) (w : World) (hL : L = [] ∨ ∃ g o, a = some ⟨g, o, none⟩ ∧ g < w.heap.size ∧ ∀ (i : Nat) (h : i < L.length) (j : Nat) (u : Value), (Sn.cs L[i])[j]? = some u → w.cell? ⟨g, o + i * 9 + j, none⟩ = some u) (hl : L.length ≤ 1954687338211)
    (hK : ∀ W, Below w.heap.size w W → ∀ (i : Nat) (h : i < L.length), Calls Tryz.prog 72 #[.agg #[.int .i64 L[i].fr, .int .i64 L[i].till, .int .i64 L[i].w0, .int .i64 L[i].w1, .int .i64 L[i].w2, .int .i64 L[i].w3, .int .i64 L[i].w4, .int .i64 L[i].w5, .int .i64 L[i].w6]] W fun e W' => e = .returned (.bool (p L[i])) ∧ Below W.heap.size W W') :
    Calls Tryz.prog 71 #[.slice a L.length c, .func (.func 72) #[] #[]] w fun e w' => e = .returned (.bool (L.all p)) ∧ Below w.heap.size w w' := by
  have hmf : ∀ (fn : Fn) (first cap : Array Value) (w : World), (Instr.makeFunc fn first cap).run Tryz.prog w = .ok (.func fn first cap) w := fun _ _ _ _ => rfl
  have hc := cntS L a c w.heap.size p (w.alloc (.cells #[.func (.func 72) #[] #[]] 97)) (hL.imp id (fun ⟨g, o, e1, e2, e3⟩ => ⟨g, o, e1, by simp; omega, fun i h j u hu => (bel1.cell (p := ⟨g, _, none⟩) e2).trans (e3 i h j u hu)⟩)) hl (by
    intro W hW i hi
    refine cloS70 L[i] w.heap.size (p L[i]) W ?_ (fun W2 hW2 => hK W2 (belT (belT bel1 hW) hW2) i hi)
    rw [hW.cell (p := ⟨w.heap.size, 0, none⟩) (by simp)]
    exact (Has.new w #[_] 97 rfl).2.1 0)
  generalize L.all p = R at *
  clear hL hK
  go_enter Tryz.func71, Tryz.ntmps71
  go_wp2_with (go_at_call 95; (with_reducible refine hc.mono ?_); rintro e w' ⟨rfl, hb2⟩)
  go_ret
  exact ⟨by simp, belT bel1 hb2⟩
set_option maxRecDepth 100000 in
set_option maxHeartbeats 2000000 in
theorem cloS77 (x : Sn) (b q : Nat) (B : Bool) (w : World) (hb : w.cell? ⟨b, 0, none⟩ = some (.func (.func 79) #[] #[.pointer (some ⟨q, 0, none⟩)]))
    (hK : ∀ W, Below w.heap.size w W → Calls Tryz.prog 79 #[.agg #[.int .i64 x.fr, .int .i64 x.till, .int .i64 x.w0, .int .i64 x.w1, .int .i64 x.w2, .int .i64 x.w3, .int .i64 x.w4, .int .i64 x.w5, .int .i64 x.w6], .pointer (some ⟨q, 0, none⟩)] W fun e W' => e = .returned (.bool B) ∧ Below W.heap.size W W') :
    Calls Tryz.prog 96 #[.agg #[.int .i64 x.fr, .int .i64 x.till, .int .i64 x.w0, .int .i64 x.w1, .int .i64 x.w2, .int .i64 x.w3, .int .i64 x.w4, .int .i64 x.w5, .int .i64 x.w6], .pointer (some ⟨b, 0, none⟩)] w fun e w' => e = .returned (.bool (!B)) ∧ Below w.heap.size w w' := by
  have hlt : b < w.heap.size := cell_ltF hb
  obtain ⟨x0, x1, x2, x3, x4, x5, x6, x7, x8⟩ := x
  dsimp only at *
  go_enter Tryz.func96, Tryz.ntmps96
  go_wp2_with (go_at_call 79; (with_reducible refine (hK _ bel1).mono ?_); rintro e w' ⟨rfl, hb2⟩)
  go_ret
  exact ⟨rfl, belT bel1 hb2⟩
set_option maxRecDepth 100000 in
set_option maxHeartbeats 2000000 in
theorem allS77 (L : List Sn) (a : Option Addr) (c q : Nat) (p : Sn → Bool) (w : World) (hL : L = [] ∨ ∃ g o, a = some ⟨g, o, none⟩ ∧ g < w.heap.size ∧ ∀ (i : Nat) (h : i < L.length) (j : Nat) (u : Value), (Sn.cs L[i])[j]? = some u → w.cell? ⟨g, o + i * 9 + j, none⟩ = some u) (hl : L.length ≤ 1954687338211)
    (hK : ∀ W, Below w.heap.size w W → ∀ (i : Nat) (h : i < L.length), Calls Tryz.prog 79 #[.agg #[.int .i64 L[i].fr, .int .i64 L[i].till, .int .i64 L[i].w0, .int .i64 L[i].w1, .int .i64 L[i].w2, .int .i64 L[i].w3, .int .i64 L[i].w4, .int .i64 L[i].w5, .int .i64 L[i].w6], .pointer (some ⟨q, 0, none⟩)] W fun e W' => e = .returned (.bool (p L[i])) ∧ Below W.heap.size W W') :
    Calls Tryz.prog 71 #[.slice a L.length c, .func (.func 79) #[] #[.pointer (some ⟨q, 0, none⟩)]] w fun e w' => e = .returned (.bool (L.all p)) ∧ Below w.heap.size w w' := by
  have hmf : ∀ (fn : Fn) (first cap : Array Value) (w : World), (Instr.makeFunc fn first cap).run Tryz.prog w = .ok (.func fn first cap) w := fun _ _ _ _ => rfl
  have hc := cntS L a c w.heap.size p (w.alloc (.cells #[.func (.func 79) #[] #[.pointer (some ⟨q, 0, none⟩)]] 97)) (hL.imp id (fun ⟨g, o, e1, e2, e3⟩ => ⟨g, o, e1, by simp; omega, fun i h j u hu => (bel1.cell (p := ⟨g, _, none⟩) e2).trans (e3 i h j u hu)⟩)) hl (by
    intro W hW i hi
    refine cloS77 L[i] w.heap.size q (p L[i]) W ?_ (fun W2 hW2 => hK W2 (belT (belT bel1 hW) hW2) i hi)
    rw [hW.cell (p := ⟨w.heap.size, 0, none⟩) (by simp)]
    exact (Has.new w #[_] 97 rfl).2.1 0)
  generalize L.all p = R at *
  clear hL hK
  go_enter Tryz.func71, Tryz.ntmps71
  go_wp2_with (go_at_call 95; (with_reducible refine hc.mono ?_); rintro e w' ⟨rfl, hb2⟩)
  go_ret
  exact ⟨by simp, belT bel1 hb2⟩
set_option maxRecDepth 100000 in
set_option maxHeartbeats 2000000 in
theorem idxX (L : List Ex) (a : Option Addr) (c b : Nat) (p : Ex → Bool) (w : World) (hL : L = [] ∨ ∃ g o, a = some ⟨g, o, none⟩ ∧ g < w.heap.size ∧ ∀ (i : Nat) (h : i < L.length) (j : Nat) (u : Value), (Ex.cs L[i])[j]? = some u → w.cell? ⟨g, o + i * 2 + j, none⟩ = some u) (hl : L.length ≤ 8796093021952)
    (hC : ∀ W, Below w.heap.size w W → ∀ (i : Nat) (h : i < L.length), Calls Tryz.prog 98 #[.agg #[.int .i64 L[i].day, .int .i64 L[i].kind], .pointer (some ⟨b, 0, none⟩)] W fun e W' => e = .returned (.bool (!p L[i])) ∧ Below W.heap.size W W') :
    Calls Tryz.prog 105 #[.slice a L.length c, .func (.func 98) #[] #[.pointer (some ⟨b, 0, none⟩)]] w fun e w' => IxP e (L.all p) ∧ Below w.heap.size w w' := by
  have hC' : Hid (∀ W, Below w.heap.size w W → ∀ (i : Nat) (h : i < L.length), Calls Tryz.prog 98 #[.agg #[.int .i64 L[i].day, .int .i64 L[i].kind], .pointer (some ⟨b, 0, none⟩)] W fun e W' => e = .returned (.bool (!p L[i])) ∧ Below W.heap.size W W') := hC
  clear hC
  go_enter Tryz.func105, Tryz.ntmps105
  go_wp2
  go_loopg [5, 8] L.length (fun gk s5 s8 wr => ∃ k : Nat, k + gk = L.length ∧ s8 = .int .i64 (k : Int) ∧ Hid ((L.drop k).all p = L.all p) ∧ Below w.heap.size w wr)
  case atStart => exact ⟨0, by omega, rfl, by show _ = _; simp, Below.refl _ _⟩
  case round =>
    obtain ⟨k, hk, rfl, hA, hb⟩ := hrel
    by_cases hlt : k < L.length
    · obtain ⟨g, o, rfl, hg, P⟩ := hL.resolve_left (by intro e; rw [e] at hlt; simp at hlt)
      have p0 := (hb.cell (p := ⟨g, _, none⟩) hg).trans (P k hlt 0 _ rfl)
      have p1 := (hb.cell (p := ⟨g, _, none⟩) hg).trans (P k hlt 1 _ rfl)
      simp only [Nat.add_zero] at p0
      have t1 : (k : Int) < (L.length : Int) := by omega
      have t0 : (0 : Int) ≤ (k : Int) := by omega
      have hc := hC'.out wr hb k hlt
      have hs := all_drop p L k hlt
      have hE : Hid (L.all p = (p L[k] && (L.drop (k + 1)).all p)) := by show _ = _; rw [← hA.out, hs]
      clear hs hA P hL
      cases hp : p L[k] with
      | true =>
        rw [hp] at hc
        have hE2 : Hid ((L.drop (k + 1)).all p = L.all p) := by show _ = _; rw [hE.out, hp]; rfl
        clear hE hp
        go_wp2_with (go_at_call 98; (with_reducible refine hc.mono ?_); rintro e w' ⟨rfl, hb2⟩)
        go_roundg (gk - 1)
        case measure => go_light; omega
        case rel => exact ⟨k + 1, by omega, by go_num, hE2, belT hb hb2⟩
      | false =>
        rw [hp] at hc
        have hE2 : Hid (L.all p = false) := by show _ = _; rw [hE.out, hp]; rfl
        clear hE hp
        go_wp2_with (go_at_call 98; (with_reducible refine hc.mono ?_); rintro e w' ⟨rfl, hb2⟩)
        go_ret
        exact ⟨⟨_, rfl, by rw [hE2.out]; simp⟩, belT hb hb2⟩
    · obtain rfl : k = L.length := by omega
      have t1 : ¬ (L.length : Int) < (L.length : Int) := by omega
      have hE2 : Hid (L.all p = true) := by show _ = _; rw [← hA.out]; simp
      clear hL
      go_wp2
      go_ret
      exact ⟨⟨_, rfl, by rw [hE2.out]; rfl⟩, hb⟩
set_option maxRecDepth 100000 in
set_option maxHeartbeats 2000000 in
theorem cntX (L : List Ex) (a : Option Addr) (c b : Nat) (p : Ex → Bool) (w : World) (hL : L = [] ∨ ∃ g o, a = some ⟨g, o, none⟩ ∧ g < w.heap.size ∧ ∀ (i : Nat) (h : i < L.length) (j : Nat) (u : Value), (Ex.cs L[i])[j]? = some u → w.cell? ⟨g, o + i * 2 + j, none⟩ = some u) (hl : L.length ≤ 8796093021952)
    (hC : ∀ W, Below w.heap.size w W → ∀ (i : Nat) (h : i < L.length), Calls Tryz.prog 98 #[.agg #[.int .i64 L[i].day, .int .i64 L[i].kind], .pointer (some ⟨b, 0, none⟩)] W fun e W' => e = .returned (.bool (!p L[i])) ∧ Below W.heap.size W W') :
    Calls Tryz.prog 97 #[.slice a L.length c, .func (.func 98) #[] #[.pointer (some ⟨b, 0, none⟩)]] w fun e w' => e = .returned (.bool (!L.all p)) ∧ Below w.heap.size w w' := by
  have hc := idxX L a c b p w hL hl hC
  generalize L.all p = R at *
  clear hL hC
  go_enter Tryz.func97, Tryz.ntmps97
  go_wp2_with (go_at_call 105; (with_reducible refine hc.mono ?_); rintro e w' ⟨⟨z, rfl, hz⟩, hb2⟩)
  go_ret
  exact ⟨rfl, hb2⟩
set_option maxRecDepth 100000 in
set_option maxHeartbeats 2000000 in
theorem cloX73 (x : Ex) (b : Nat) (B : Bool) (w : World) (hb : w.cell? ⟨b, 0, none⟩ = some (.func (.func 75) #[] #[]))
    (hK : ∀ W, Below w.heap.size w W → Calls Tryz.prog 75 #[.agg #[.int .i64 x.day, .int .i64 x.kind]] W fun e W' => e = .returned (.bool B) ∧ Below W.heap.size W W') :
    Calls Tryz.prog 98 #[.agg #[.int .i64 x.day, .int .i64 x.kind], .pointer (some ⟨b, 0, none⟩)] w fun e w' => e = .returned (.bool (!B)) ∧ Below w.heap.size w w' := by
  have hlt : b < w.heap.size := cell_ltF hb
  obtain ⟨x0, x1⟩ := x
  dsimp only at *
  go_enter Tryz.func98, Tryz.ntmps98
  go_wp2_with (go_at_call 75; (with_reducible refine (hK _ bel1).mono ?_); rintro e w' ⟨rfl, hb2⟩)
  go_ret
  exact ⟨rfl, belT bel1 hb2⟩
set_option maxRecDepth 100000 in
set_option maxHeartbeats 2000000 in
theorem allX73 (L : List Ex) (a : Option Addr) (c : Nat) (p : Ex → Bool) (w : World) (hL : L = [] ∨ ∃ g o, a = some ⟨g, o, none⟩ ∧ g < w.heap.size ∧ ∀ (i : Nat) (h : i < L.length) (j : Nat) (u : Value), (Ex.cs L[i])[j]? = some u → w.cell? ⟨g, o + i * 2 + j, none⟩ = some u) (hl : L.length ≤ 8796093021952)
    (hK : ∀ W, Below w.heap.size w W → ∀ (i : Nat) (h : i < L.length), Calls Tryz.prog 75 #[.agg #[.int .i64 L[i].day, .int .i64 L[i].kind]] W fun e W' => e = .returned (.bool (p L[i])) ∧ Below W.heap.size W W') :
    Calls Tryz.prog 74 #[.slice a L.length c, .func (.func 75) #[] #[]] w fun e w' => e = .returned (.bool (L.all p)) ∧ Below w.heap.size w w' := by
  have hmf : ∀ (fn : Fn) (first cap : Array Value) (w : World), (Instr.makeFunc fn first cap).run Tryz.prog w = .ok (.func fn first cap) w := fun _ _ _ _ => rfl
  have hc := cntX L a c w.heap.size p (w.alloc (.cells #[.func (.func 75) #[] #[]] 99)) (hL.imp id (fun ⟨g, o, e1, e2, e3⟩ => ⟨g, o, e1, by simp; omega, fun i h j u hu => (bel1.cell (p := ⟨g, _, none⟩) e2).trans (e3 i h j u hu)⟩)) hl (by
    intro W hW i hi
    refine cloX73 L[i] w.heap.size (p L[i]) W ?_ (fun W2 hW2 => hK W2 (belT (belT bel1 hW) hW2) i hi)
    rw [hW.cell (p := ⟨w.heap.size, 0, none⟩) (by simp)]
    exact (Has.new w #[_] 99 rfl).2.1 0)
  generalize L.all p = R at *
  clear hL hK
  go_enter Tryz.func74, Tryz.ntmps74
  go_wp2_with (go_at_call 97; (with_reducible refine hc.mono ?_); rintro e w' ⟨rfl, hb2⟩)
  go_ret
  exact ⟨by simp, belT bel1 hb2⟩
set_option maxRecDepth 100000 in
set_option maxHeartbeats 2000000 in
theorem cloX78 (x : Ex) (b q : Nat) (B : Bool) (w : World) (hb : w.cell? ⟨b, 0, none⟩ = some (.func (.func 80) #[] #[.pointer (some ⟨q, 0, none⟩)]))
    (hK : ∀ W, Below w.heap.size w W → Calls Tryz.prog 80 #[.agg #[.int .i64 x.day, .int .i64 x.kind], .pointer (some ⟨q, 0, none⟩)] W fun e W' => e = .returned (.bool B) ∧ Below W.heap.size W W') :
    Calls Tryz.prog 98 #[.agg #[.int .i64 x.day, .int .i64 x.kind], .pointer (some ⟨b, 0, none⟩)] w fun e w' => e = .returned (.bool (!B)) ∧ Below w.heap.size w w' := by
  have hlt : b < w.heap.size := cell_ltF hb
  obtain ⟨x0, x1⟩ := x
  dsimp only at *
  go_enter Tryz.func98, Tryz.ntmps98
  go_wp2_with (go_at_call 80; (with_reducible refine (hK _ bel1).mono ?_); rintro e w' ⟨rfl, hb2⟩)
  go_ret
  exact ⟨rfl, belT bel1 hb2⟩
set_option maxRecDepth 100000 in
set_option maxHeartbeats 2000000 in
theorem allX78 (L : List Ex) (a : Option Addr) (c q : Nat) (p : Ex → Bool) (w : World) (hL : L = [] ∨ ∃ g o, a = some ⟨g, o, none⟩ ∧ g < w.heap.size ∧ ∀ (i : Nat) (h : i < L.length) (j : Nat) (u : Value), (Ex.cs L[i])[j]? = some u → w.cell? ⟨g, o + i * 2 + j, none⟩ = some u) (hl : L.length ≤ 8796093021952)
    (hK : ∀ W, Below w.heap.size w W → ∀ (i : Nat) (h : i < L.length), Calls Tryz.prog 80 #[.agg #[.int .i64 L[i].day, .int .i64 L[i].kind], .pointer (some ⟨q, 0, none⟩)] W fun e W' => e = .returned (.bool (p L[i])) ∧ Below W.heap.size W W') :
    Calls Tryz.prog 74 #[.slice a L.length c, .func (.func 80) #[] #[.pointer (some ⟨q, 0, none⟩)]] w fun e w' => e = .returned (.bool (L.all p)) ∧ Below w.heap.size w w' := by
  have hmf : ∀ (fn : Fn) (first cap : Array Value) (w : World), (Instr.makeFunc fn first cap).run Tryz.prog w = .ok (.func fn first cap) w := fun _ _ _ _ => rfl
  have hc := cntX L a c w.heap.size p (w.alloc (.cells #[.func (.func 80) #[] #[.pointer (some ⟨q, 0, none⟩)]] 99)) (hL.imp id (fun ⟨g, o, e1, e2, e3⟩ => ⟨g, o, e1, by simp; omega, fun i h j u hu => (bel1.cell (p := ⟨g, _, none⟩) e2).trans (e3 i h j u hu)⟩)) hl (by
    intro W hW i hi
    refine cloX78 L[i] w.heap.size q (p L[i]) W ?_ (fun W2 hW2 => hK W2 (belT (belT bel1 hW) hW2) i hi)
    rw [hW.cell (p := ⟨w.heap.size, 0, none⟩) (by simp)]
    exact (Has.new w #[_] 99 rfl).2.1 0)
  generalize L.all p = R at *
  clear hL hK
  go_enter Tryz.func74, Tryz.ntmps74
  go_wp2_with (go_at_call 97; (with_reducible refine hc.mono ?_); rintro e w' ⟨rfl, hb2⟩)
  go_ret
  exact ⟨by simp, belT bel1 hb2⟩
set_option maxRecDepth 100000 in
set_option maxHeartbeats 2000000 in
theorem idxI (L : List Int) (a : Option Addr) (c b : Nat) (p : Int → Bool) (w : World) (hL : L = [] ∨ ∃ g o, a = some ⟨g, o, none⟩ ∧ g < w.heap.size ∧ ∀ (i : Nat) (h : i < L.length) (j : Nat) (u : Value), (Int.cs L[i])[j]? = some u → w.cell? ⟨g, o + i * 1 + j, none⟩ = some u) (hl : L.length ≤ 1000)
    (hC : ∀ W, Below w.heap.size w W → ∀ (i : Nat) (h : i < L.length), Calls Tryz.prog 100 #[.int .i64 L[i], .pointer (some ⟨b, 0, none⟩)] W fun e W' => e = .returned (.bool (!p L[i])) ∧ Below W.heap.size W W') :
    Calls Tryz.prog 106 #[.slice a L.length c, .func (.func 100) #[] #[.pointer (some ⟨b, 0, none⟩)]] w fun e w' => IxP e (L.all p) ∧ Below w.heap.size w w' := by
  have hC' : Hid (∀ W, Below w.heap.size w W → ∀ (i : Nat) (h : i < L.length), Calls Tryz.prog 100 #[.int .i64 L[i], .pointer (some ⟨b, 0, none⟩)] W fun e W' => e = .returned (.bool (!p L[i])) ∧ Below W.heap.size W W') := hC
  clear hC
  go_enter Tryz.func106, Tryz.ntmps106
  go_wp2
  go_loopg [5, 8] L.length (fun gk s5 s8 wr => ∃ k : Nat, k + gk = L.length ∧ s8 = .int .i64 (k : Int) ∧ Hid ((L.drop k).all p = L.all p) ∧ Below w.heap.size w wr)
  case atStart => exact ⟨0, by omega, rfl, by show _ = _; simp, Below.refl _ _⟩
  case round =>
    obtain ⟨k, hk, rfl, hA, hb⟩ := hrel
    by_cases hlt : k < L.length
    · obtain ⟨g, o, rfl, hg, P⟩ := hL.resolve_left (by intro e; rw [e] at hlt; simp at hlt)
      have p0 := (hb.cell (p := ⟨g, _, none⟩) hg).trans (P k hlt 0 _ rfl)
      simp only [Nat.mul_one, Nat.add_zero] at p0
      have t1 : (k : Int) < (L.length : Int) := by omega
      have t0 : (0 : Int) ≤ (k : Int) := by omega
      have hc := hC'.out wr hb k hlt
      have hs := all_drop p L k hlt
      have hE : Hid (L.all p = (p L[k] && (L.drop (k + 1)).all p)) := by show _ = _; rw [← hA.out, hs]
      clear hs hA P hL
      cases hp : p L[k] with
      | true =>
        rw [hp] at hc
        have hE2 : Hid ((L.drop (k + 1)).all p = L.all p) := by show _ = _; rw [hE.out, hp]; rfl
        clear hE hp
        go_wp2_with (go_at_call 100; (with_reducible refine hc.mono ?_); rintro e w' ⟨rfl, hb2⟩)
        go_roundg (gk - 1)
        case measure => go_light; omega
        case rel => exact ⟨k + 1, by omega, by go_num, hE2, belT hb hb2⟩
      | false =>
        rw [hp] at hc
        have hE2 : Hid (L.all p = false) := by show _ = _; rw [hE.out, hp]; rfl
        clear hE hp
        go_wp2_with (go_at_call 100; (with_reducible refine hc.mono ?_); rintro e w' ⟨rfl, hb2⟩)
        go_ret
        exact ⟨⟨_, rfl, by rw [hE2.out]; simp⟩, belT hb hb2⟩
    · obtain rfl : k = L.length := by omega
      have t1 : ¬ (L.length : Int) < (L.length : Int) := by omega
      have hE2 : Hid (L.all p = true) := by show _ = _; rw [← hA.out]; simp
      clear hL
      go_wp2
      go_ret
      exact ⟨⟨_, rfl, by rw [hE2.out]; rfl⟩, hb⟩
set_option maxRecDepth 100000 in
set_option maxHeartbeats 2000000 in
theorem cntI (L : List Int) (a : Option Addr) (c b : Nat) (p : Int → Bool) (w : World) (hL : L = [] ∨ ∃ g o, a = some ⟨g, o, none⟩ ∧ g < w.heap.size ∧ ∀ (i : Nat) (h : i < L.length) (j : Nat) (u : Value), (Int.cs L[i])[j]? = some u → w.cell? ⟨g, o + i * 1 + j, none⟩ = some u) (hl : L.length ≤ 1000)
    (hC : ∀ W, Below w.heap.size w W → ∀ (i : Nat) (h : i < L.length), Calls Tryz.prog 100 #[.int .i64 L[i], .pointer (some ⟨b, 0, none⟩)] W fun e W' => e = .returned (.bool (!p L[i])) ∧ Below W.heap.size W W') :
    Calls Tryz.prog 99 #[.slice a L.length c, .func (.func 100) #[] #[.pointer (some ⟨b, 0, none⟩)]] w fun e w' => e = .returned (.bool (!L.all p)) ∧ Below w.heap.size w w' := by
  have hc := idxI L a c b p w hL hl hC
  generalize L.all p = R at *
  clear hL hC
  go_enter Tryz.func99, Tryz.ntmps99
  go_wp2_with (go_at_call 106; (with_reducible refine hc.mono ?_); rintro e w' ⟨⟨z, rfl, hz⟩, hb2⟩)
  go_ret
  exact ⟨rfl, hb2⟩
set_option maxRecDepth 100000 in
set_option maxHeartbeats 2000000 in
theorem cloI75 (x : Int) (b q : Nat) (B : Bool) (w : World) (hb : w.cell? ⟨b, 0, none⟩ = some (.func (.func 77) #[] #[.pointer (some ⟨q, 0, none⟩)]))
    (hK : ∀ W, Below w.heap.size w W → Calls Tryz.prog 77 #[.int .i64 x, .pointer (some ⟨q, 0, none⟩)] W fun e W' => e = .returned (.bool B) ∧ Below W.heap.size W W') :
    Calls Tryz.prog 100 #[.int .i64 x, .pointer (some ⟨b, 0, none⟩)] w fun e w' => e = .returned (.bool (!B)) ∧ Below w.heap.size w w' := by
  have hlt : b < w.heap.size := cell_ltF hb
  go_enter Tryz.func100, Tryz.ntmps100
  go_wp2_with (go_at_call 77; (with_reducible refine (hK _ (Below.refl _ _)).mono ?_); rintro e w' ⟨rfl, hb2⟩)
  go_ret
  exact ⟨rfl, hb2⟩
set_option maxRecDepth 100000 in
set_option maxHeartbeats 2000000 in
theorem allI75 (L : List Int) (a : Option Addr) (c q : Nat) (p : Int → Bool) (w : World) (hL : L = [] ∨ ∃ g o, a = some ⟨g, o, none⟩ ∧ g < w.heap.size ∧ ∀ (i : Nat) (h : i < L.length) (j : Nat) (u : Value), (Int.cs L[i])[j]? = some u → w.cell? ⟨g, o + i * 1 + j, none⟩ = some u) (hl : L.length ≤ 1000)
    (hK : ∀ W, Below w.heap.size w W → ∀ (i : Nat) (h : i < L.length), Calls Tryz.prog 77 #[.int .i64 L[i], .pointer (some ⟨q, 0, none⟩)] W fun e W' => e = .returned (.bool (p L[i])) ∧ Below W.heap.size W W') :
    Calls Tryz.prog 78 #[.slice a L.length c, .func (.func 77) #[] #[.pointer (some ⟨q, 0, none⟩)]] w fun e w' => e = .returned (.bool (L.all p)) ∧ Below w.heap.size w w' := by
  have hmf : ∀ (fn : Fn) (first cap : Array Value) (w : World), (Instr.makeFunc fn first cap).run Tryz.prog w = .ok (.func fn first cap) w := fun _ _ _ _ => rfl
  have hc := cntI L a c w.heap.size p (w.alloc (.cells #[.func (.func 77) #[] #[.pointer (some ⟨q, 0, none⟩)]] 69)) (hL.imp id (fun ⟨g, o, e1, e2, e3⟩ => ⟨g, o, e1, by simp; omega, fun i h j u hu => (bel1.cell (p := ⟨g, _, none⟩) e2).trans (e3 i h j u hu)⟩)) hl (by
    intro W hW i hi
    refine cloI75 L[i] w.heap.size q (p L[i]) W ?_ (fun W2 hW2 => hK W2 (belT (belT bel1 hW) hW2) i hi)
    rw [hW.cell (p := ⟨w.heap.size, 0, none⟩) (by simp)]
    exact (Has.new w #[_] 69 rfl).2.1 0)
  generalize L.all p = R at *
  clear hL hK
  go_enter Tryz.func78, Tryz.ntmps78
  go_wp2_with (go_at_call 99; (with_reducible refine hc.mono ?_); rintro e w' ⟨rfl, hb2⟩)
  go_ret
  exact ⟨by simp, belT bel1 hb2⟩
end Go.Proofs.YtddphepgcihdbaaGreat
