import Derived.Test.YtjohnhaahpggkaaDoorStrL
namespace Go.Proofs.YtjohnhaahpggkaaDoor
open Go.RowKit
set_option linter.unusedVariables false

/-- A list of tokens as it is read: nil or empty, or its cells from the block's begin on. -/
def Toks (w : World) (v : Value) (ts : List Tok) : Prop :=
  ∃ a cap, v = .slice a ts.length cap ∧ (ts = [] ∨ ∃ g, a = some ⟨g, 0, none⟩ ∧ ts.length ≤ cap ∧ g < w.heap.size ∧ ∀ (i : Nat) (h : i < ts.length),
    w.cell? ⟨g, i * 5, none⟩ = some (.int .i64 ts[i].t.kind) ∧ w.cell? ⟨g, i * 5 + 1, none⟩ = some (.int .i32 ts[i].t.num) ∧ w.cell? ⟨g, i * 5 + 2, none⟩ = some (.string (bs ts[i].t.text)) ∧ w.cell? ⟨g, i * 5 + 3, none⟩ = some (.int .i64 ts[i].line) ∧ w.cell? ⟨g, i * 5 + 4, none⟩ = some (.int .i64 ts[i].col))

set_option maxRecDepth 100000 in
set_option maxHeartbeats 4000000 in
theorem alike_same (ts : List Tok) (v1 v2 : Value) (w : World) (h1 : Toks w v1 ts) (h2 : Toks w v2 ts) (hlen : ts.length ≤ 1000000) :
    Calls Tryd.prog 18 #[v1, v2] w fun e w' => e = .returned (.bool true) ∧ ∃ n, w' = w.drewN n := by
  obtain ⟨a1, c1, rfl, h1⟩ := h1
  obtain ⟨a2, c2, rfl, h2⟩ := h2
  by_cases h0 : ts = []
  · subst h0
    clear h1 h2
    go_enter Tryd.func18, Tryd.ntmps18
    go_wp2
    go_loop [5] (fun t => t = .int .i64 0) (fun _ => 0)
    case atStart => exact rfl
    case round =>
      obtain rfl := hrel
      go_wp2
      go_ret
      exact ⟨rfl, 0, rfl⟩
  · obtain ⟨g1, rfl, hc1, hg1, H1⟩ := h1.resolve_left h0
    obtain ⟨g2, rfl, hc2, hg2, H2⟩ := h2.resolve_left h0
    clear h0 h1 h2
    go_enter Tryd.func18, Tryd.ntmps18
    go_wp2
    go_loopw [5] (fun t wr => ∃ k q : Nat, k ≤ ts.length ∧ t = .int .i64 (k : Int) ∧ wr = w.drewN q) (fun t _ => ts.length - (intOf t).toNat)
    case atStart => exact ⟨0, 0, by omega, rfl, rfl⟩
    case round =>
      obtain ⟨k, q, hk, rfl, rfl⟩ := hrel
      by_cases hlt : k < ts.length
      · obtain ⟨p0, p1, p2, p3, p4⟩ := H1 k hlt
        obtain ⟨r0, r1, r2, r3, r4⟩ := H2 k hlt
        have k1 : (k : Int) < (ts.length : Int) := by omega
        have k0 : (0 : Int) ≤ (k : Int) := by omega
        generalize ts[k].t.kind = x0 at *
        generalize ts[k].t.num = x1 at *
        generalize bs ts[k].t.text = x2 at *
        generalize ts[k].line = x3 at *
        generalize ts[k].col = x4 at *
        clear H1 H2
        go_wp2
        go_quiet (fail)
        go_wp2
        go_roundw
        case rel => exact ⟨k + 1, q + nq, by omega, by go_num, rfl⟩
        case measure => simp [intOf]; omega
      · have k1 : ¬ (k : Int) < (ts.length : Int) := by omega
        clear H1 H2
        go_wp2
        go_ret
        exact ⟨rfl, q, rfl⟩
end Go.Proofs.YtjohnhaahpggkaaDoor
