import Derived.Test.YtoanbdbcfdjdeaaDoorBpH
namespace Go.Proofs.YtoanbdbcfdjdeaaDoor
open Go.RowKit
set_option linter.unusedVariables false
set_option linter.unusedSimpArgs false


def blE (s : Int) : Int := if s < 4 ∨ 4096 < s then 160 else 0
def blL (s : Int) : List Int := if s < 4 ∨ 4096 < s then [] else List.replicate (s.toNat * 1024) 255
theorem buf_ob {w w' : World} {N B : Nat} (h : Lib.Buf w w' w.heap.size N (List.replicate N 255)) (hB : B ≤ w.heap.size) (hN : 0 < N) (h2 : N ≤ 4194304) : Ob B w' (.slice (some ⟨w.heap.size, 0, none⟩) N N) (List.replicate N 255) := by
  have hc : ∀ j, j < N → w'.cell? ⟨w.heap.size, j, none⟩ = some (.int .u8 255) := fun j hj => h.holds j 255 (by rw [List.getElem?_replicate, if_pos hj])
  refine .inr ⟨w.heap.size, N, by rw [List.length_replicate], hB, cell_ltF (hc 0 hN), by rw [List.length_replicate]; exact Nat.le_refl _, by rw [List.length_replicate]; omega, .inr ⟨by rw [List.length_replicate], fun j hj => ?_⟩⟩
  have hj' : j < N := by simpa using hj
  exact ⟨by rw [hc j hj', List.getElem_replicate], h.free j hj'⟩
set_option maxRecDepth 100000 in
set_option maxHeartbeats 2000000 in
theorem blank4 {B : Nat} {ea : Nat → Addr} (s : Int) (w : World) (hE : Er B w ea) (h1 : -9223372036854775808 ≤ s) (h2 : s ≤ 9223372036854775807) :
    Calls Tryd.prog 4 #[.int .i64 s] w fun e w' => (∃ v, e = .returned (.tuple #[v, .int .i64 (blE s)]) ∧ Ob w.heap.size w' v (blL s)) ∧ Below w.heap.size w w' := by
  by_cases hbad : s < 4 ∨ 4096 < s
  · have eE : blE s = 160 := if_pos hbad
    have eL : blL s = [] := if_pos hbad
    rw [eE, eL]
    clear eE eL
    have g0 := hE.glob 0 (by decide)
    have h15 := number_disk w hE
    clear hE
    generalize ea 0 = e0 at *
    rcases Int.lt_or_le s 4 with hs | hs
    · go_enter Tryd.func4, Tryd.ntmps4
      go_wp2_with (go_at_call 15; (with_reducible refine Calls.mono h15 ?_); rintro e w1 ⟨rfl, hb⟩)
      go_ret2
      exact ⟨⟨_, rfl, .inl ⟨rfl, rfl⟩⟩, hb⟩
    · have hs' : ¬ s < 4 := by omega
      have hs2 : 4096 < s := by omega
      go_enter Tryd.func4, Tryd.ntmps4
      go_wp2_with (go_at_call 15; (with_reducible refine Calls.mono h15 ?_); rintro e w1 ⟨rfl, hb⟩)
      go_ret2
      exact ⟨⟨_, rfl, .inl ⟨rfl, rfl⟩⟩, hb⟩
  · have eE : blE s = 0 := if_neg hbad
    have eL : blL s = List.replicate (s.toNat * 1024) 255 := if_neg hbad
    rw [eE, eL]
    clear eE eL hE
    obtain ⟨n, rfl⟩ : ∃ n : Nat, s = (n : Int) := ⟨s.toNat, by omega⟩
    rw [Int.toNat_natCast]
    have hs1 : ¬ (n : Int) < 4 := by omega
    have hs2 : ¬ (4096 : Int) < (n : Int) := by omega
    have hN : (n : Int) * 1024 = ((n * 1024 : Nat) : Int) := by omega
    have hN2 : n * 1024 ≤ 4194304 ∧ 4096 ≤ n * 1024 := by omega
    have HX := Has.new w #[.int .u8 255] 5 rfl
    have h16 := repeat_any (n * 1024) ⟨w.heap.size, 0, none⟩ (w.alloc (.cells #[.int .u8 255] 5)) hN2.2 hN2.1 (HX.2.1 0)
    have bN := belN1 (w := w) (o1 := .cells #[.int .u8 255] 5)
    generalize n * 1024 = N at *
    clear HX
    generalize hW : w.alloc (.cells #[.int .u8 255] 5) = W at *
    go_enter Tryd.func4, Tryd.ntmps4
    go_wp2_with (go_at_call 16; (with_reducible refine Calls.mono h16 ?_); rintro e w1 ⟨rfl, hb⟩)
    go_ret2
    exact ⟨⟨_, rfl, buf_ob hb bN.size (by omega) hN2.1⟩, bN.trans (hb.below.mono bN.size)⟩
set_option maxRecDepth 100000 in
set_option maxHeartbeats 2000000 in
theorem blank5 (s : Int) (w : World) (h1 : -9223372036854775808 ≤ s) (h2 : s ≤ 9223372036854775807) :
    Calls Tryd.prog 5 #[.int .i64 s] w fun e w' => (∃ v, e = .returned (.tuple #[v, .int .i64 (blE s)]) ∧ Ob w.heap.size w' v (blL s)) ∧ Below w.heap.size w w' := by
  by_cases hbad : s < 4 ∨ 4096 < s
  · have eE : blE s = 160 := if_pos hbad
    have eL : blL s = [] := if_pos hbad
    rw [eE, eL]
    clear eE eL
    rcases Int.lt_or_le s 4 with hs | hs
    · go_enter Tryd.func5, Tryd.ntmps5
      go_wp2_with fail
      go_ret2
      exact ⟨⟨_, rfl, .inl ⟨rfl, rfl⟩⟩, Below.refl _ _⟩
    · have hs' : ¬ s < 4 := by omega
      have hs2 : 4096 < s := by omega
      go_enter Tryd.func5, Tryd.ntmps5
      go_wp2_with fail
      go_ret2
      exact ⟨⟨_, rfl, .inl ⟨rfl, rfl⟩⟩, Below.refl _ _⟩
  · have eE : blE s = 0 := if_neg hbad
    have eL : blL s = List.replicate (s.toNat * 1024) 255 := if_neg hbad
    rw [eE, eL]
    clear eE eL
    obtain ⟨n, rfl⟩ : ∃ n : Nat, s = (n : Int) := ⟨s.toNat, by omega⟩
    rw [Int.toNat_natCast]
    have hs1 : ¬ (n : Int) < 4 := by omega
    have hs2 : ¬ (4096 : Int) < (n : Int) := by omega
    have hN : (n : Int) * 1024 = ((n * 1024 : Nat) : Int) := by omega
    have hN2 : n * 1024 ≤ 4194304 ∧ 4096 ≤ n * 1024 := by omega
    obtain ⟨ti, hi, hx⟩ := Option.map_eq_some_iff.1 infoB
    have hi0 : ti.zero = some (.int .u8 0) := congrArg (·.1) hx
    have hi1 : ti.size = 1 := congrArg (·.2.1) hx
    have hi2 : ti.bytes = 1 := congrArg (·.2.2) hx
    generalize n * 1024 = N at *
    go_enter Tryd.func5, Tryd.ntmps5
    go_wp2_with fail
    go_loopw [4, 5] (fun v i wr => ∃ (k : Nat) (a : Option Addr) (c : Nat), k ≤ N ∧ i = .int .i64 (k : Int) ∧ v = .slice a k c ∧ Hid (wr.ownsRow w.heap.size 5 1 (.slice a k c) k (List.replicate k (.int .u8 255))) ∧ Hid (Below w.heap.size w wr)) (fun _ i _ => N - (intOf i).toNat)
    case atStart => exact ⟨0, none, 0, by omega, rfl, rfl, World.ownsRow_nil _ _ _ _, Below.refl _ _⟩
    case round =>
      obtain ⟨k, a, c, hk, rfl, rfl, ho', hb'⟩ := hrel
      have ow := ho'.out
      have hb := hb'.out
      clear ho' hb'
      by_cases hlt : k < N
      case neg =>
        obtain rfl : k = N := by omega
        have t1 : ¬ (k : Int) < (k : Int) := by omega
        go_wp2_with fail
        go_ret2
        obtain ⟨g, cap, e, hc, hg, hl⟩ := own_block ow (by omega)
        injection e with e _ e3
        subst e
        subst e3
        have hr : (List.replicate k (Value.int .u8 255)) = (List.replicate k (255 : Int)).map bv := by simp [bv]
        rw [hr] at ow
        refine ⟨⟨_, rfl, ?_⟩, hb⟩
        have := Ob.own (B := w.heap.size) (L := List.replicate k (255 : Int)) (base := w.heap.size) (g := g) (cap := c) (w := _) (by simpa using ow) hg (by simp; omega)
        simpa using this
      have t1 : (k : Int) < (N : Int) := by omega
      have ow1 := own_bel ow (belN1 (o1 := .cells #[.int .u8 255] 5))
      have hb1 : Below w.heap.size w (wr.alloc (.cells #[.int .u8 255] 5)) := hb.alloc hb.size _
      have cN := cells_ten (W := wr) [.int .u8 255] 5
      go_wp2_with (at_builtin; refine wpList_append_own _ rfl _ _ 22 rfl w.heap.size 5 ti _ 1 1 Tryd.underlying22 hi hi0 hi1 hi2 rfl (by decide) (.slice a k c) k (List.replicate k (.int .u8 255)) rfl ow1 ⟨wr.heap.size, 0, none⟩ 1 1 [.int .u8 255] rfl rfl cN (by intro u hu; simp at hu; subst hu; rfl) (by unfold maxLen; omega) (by omega) hb1.size ?_; intro v' w' o1 o2 o3)
      obtain ⟨a', c', rfl⟩ := own_form o1
      go_roundw
      case rel => exact ⟨k + 1, a', c', by omega, by go_num, rfl, (by show World.ownsRow _ _ _ _ _ _ _; rw [List.replicate_succ']; exact o1), grown_bel (B := w.heap.size) hb1 o2 (Nat.le_refl _) (fun q hq => (own_lt ow1 q hq).1)⟩
      case measure => simp [intOf]; omega
end Go.Proofs.YtoanbdbcfdjdeaaDoor
