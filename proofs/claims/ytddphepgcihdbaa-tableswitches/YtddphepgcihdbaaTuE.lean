import Derived.Test.YtddphepgcihdbaaTuB
import Derived.Test.YtddphepgcihdbaaTnD
namespace Go.Proofs.Ytddphepgcihdbaa
open Go.RowKit Go.Shelf
set_option linter.unusedVariables false
set_option linter.unusedSimpArgs false

attribute [local go_sem] Oper.semAt_some
set_option maxRecDepth 100000 in
set_option maxHeartbeats 8000000 in
/-- The range over the minutes of rows within a round of the range over stretches. -/
theorem innerU {n l₀ nn : Nat} {r₀ : Loop} {Q : Exit → Act → World → Prop} {x0 x1 x2 x3 x5 x6 x7 x8 x9 x10 x11 x12 x13 x14 x15 x16 x17 x18 x19 x20 x21 x22 x23 x24 x25 x26 x27 x28 x29 x30 x31 x32 x33 x34 x35 x36 x37 x38 x39 x40 x42 x43 x44 x45 x46 : Value} {lb : Array Value} {y B : Nat} {w4 : World} {L : List Int} {R : Nat → Prop} {z1 z2 z3 z4 z5 : String}
    (hl₀ : w4.heap[l₀]? = some (.loop r₀)) (hseq : ∀ V, Below w4.heap.size w4 V → SeqU (n - 1) 78 lb (fun m => #[.int .i64 m]) L R V) (hR : ∀ k, R k → k < w4.heap.size)
    (I Ix : List Int → (Nat → Prop) → World → Prop) (hIU : ∀ pre U A, I pre U A → ∀ k, U k → k < A.heap.size) (hI : ∀ pre U A A', I pre U A → Only (It w4.heap.size U) A A' → I pre U A') (hIx : ∀ pre U A A', Ix pre U A → Only (It w4.heap.size U) A A' → Ix pre U A') (U0 : Nat → Prop) (hU0 : NU R U0) (h0 : I [] U0 w4)
    (hbox : ∀ pre U A, I pre U A → Has A B #[.func (.yield y) #[] #[]])
    (hY : ∀ pre x U A, I pre U A → pre ++ [x] <+: L → w4.heap.size ≤ A.heap.size → YieldAt Fence.wide nn Try.prog y #[.int .i64 x] A fun e A' => ∃ U', Gr U U' A A' ∧ Only (Tu w4.heap.size R U) A A' ∧ ((e = .returned (.bool true) ∧ I (pre ++ [x]) U' A') ∨ (e = .returned (.bool false) ∧ Ix (pre ++ [x]) U' A')))
    (hdone : ∀ a' U A, I L U A → Q .normal a' A) (hstop : ∀ a' pre U A, pre <+: L → Ix pre U A → Q .ret a' A) :
    (Code.rangeFunc (Operand.tmp 41) #[42] (Code.region 5 #[{ dst := some 6, op := Op.assign (Operand.tmp 42), type := 3, pos := z1, after := #[], guard := none }] false) (Code.block 3 ((Code.region 6 #[{ dst := some 43, op := Op.load 85 (Operand.tmp 4), type := 85, pos := z2, after := #[], guard := none }, { dst := some 44, op := Op.move (Operand.tmp 6), type := 3, pos := z3, after := #[], guard := none }, { dst := some 45, op := Op.call { callee := Callee.value (Operand.tmp 43), args := #[Operand.tmp 44], argTypes := #[3] }, type := 4, pos := z4, after := #[{ on := 0, ground := Ground.data }, { on := 1, ground := Ground.data }], guard := none }, { dst := some 46, op := Op.unOp UnOp.not 4 (Operand.tmp 45), type := 4, pos := z5, after := #[{ on := 2, ground := Ground.data }], guard := none }] false).seq (Code.cond (Operand.tmp 46) Code.ret Code.skip)))).wpIn (Fence.wide.inRound l₀) n Try.prog Q { tmps := #[x0, x1, x2, x3, .pointer (some ⟨B, 0, none⟩), x5, x6, x7, x8, x9, x10, x11, x12, x13, x14, x15, x16, x17, x18, x19, x20, x21, x22, x23, x24, x25, x26, x27, x28, x29, x30, x31, x32, x33, x34, x35, x36, x37, x38, x39, x40, .func (.func 78) #[] lb, x42, x43, x44, x45, x46], defers := [] } w4 := by
  have hY' : Hid _ := hY
  have hI' : Hid _ := hI
  have hdone' : Hid _ := hdone
  have hstop' : Hid _ := hstop
  clear hY hdone hstop
  refine rangeU_in (n := n) (gf := 78) (enc := fun m : Int => #[.int .i64 m]) (L := L) (R := R) hl₀ rfl (enters_of Try.func78 (by kernel_rfl) rfl) (fun _ => rfl) hseq hR
    (fun pre U A => Hid (I pre U A)) (fun c pre U A => c = .ret ∧ Ix pre U A) (fun m U a' A => a' = { tmps := #[x0, x1, x2, x3, .pointer (some ⟨B, 0, none⟩), x5, .int .i64 m, x7, x8, x9, x10, x11, x12, x13, x14, x15, x16, x17, x18, x19, x20, x21, x22, x23, x24, x25, x26, x27, x28, x29, x30, x31, x32, x33, x34, x35, x36, x37, x38, x39, x40, .func (.func 78) #[] lb, .int .i64 m, x43, x44, x45, x46], defers := [] })
    (fun pre U A h => hIU pre U A h.out) (fun pre U A A' h hb => hI pre U A A' h.out hb) (fun c pre U A A' h hb => ⟨h.1, hIx pre U A A' h.2 hb⟩) (fun _ _ _ _ _ h _ => h) U0 hU0 h0 ?assign ?body (fun U A h _ _ => hdone'.out _ _ _ h) ?stop
  case assign =>
    intro l pre m U A K hi hz hK
    gi_wp2
    exact hK _ _ (Below.refl _ _) rfl
  case body =>
    rintro pre m U a' A hi rfl hnu hp hz
    obtain ⟨_, q0, _⟩ := id (hbox pre U A hi.out)
    obtain ⟨fn, tmps, assign, body, hy, hRd⟩ := hY'.out pre m U A hi.out hp (by omega)
    gi_wp2
    refine ⟨fun h => (by cases h), round_any (hRd.mono ?_)⟩
    rintro e A3 ⟨U', hg, hO, ⟨rfl, h1⟩ | ⟨rfl, h1⟩⟩
    · gi_wp2
      exact ⟨U', hg, hO, h1⟩
    · gi_wp2
      exact ⟨U', hg, hO, rfl, h1⟩
  case stop =>
    rintro c pre U A hp ⟨rfl, h⟩ _ hz
    gi_wp2
    exact hstop'.out _ _ _ _ hp h
end Go.Proofs.Ytddphepgcihdbaa
