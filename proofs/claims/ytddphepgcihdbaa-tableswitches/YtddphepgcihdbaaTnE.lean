import Derived.Test.YtddphepgcihdbaaTnC
namespace Go.Proofs.Ytddphepgcihdbaa
open Go.RowKit Go.Shelf
set_option linter.unusedVariables false
set_option linter.unusedSimpArgs false

attribute [local go_sem] Oper.semAt_some
theorem round_any {n m l l₀ : Nat} {P : Program} {f : FuncId} {tmps : Array Value} {assign body : Code} {w : World} {R : Ending → World → Prop} (h : RoundIn Fence.wide n P l f tmps assign body w R) : RoundIn (Fence.wide.inRound l₀) m P l f tmps assign body w R := ⟨h.1, fun c cs _ => h.2 c cs (room_wide _)⟩
set_option maxRecDepth 100000 in
set_option maxHeartbeats 8000000 in
/-- The range over the minutes of rows within a round of the range over stretches. -/
theorem inner26 {n l₀ nn : Nat} {r₀ : Loop} {Q : Exit → Act → World → Prop} {x0 x1 x2 x3 x5 x6 x7 x8 x9 x10 x11 x12 x13 x14 x15 x16 x17 x18 x19 x20 x21 x22 x23 x24 x25 x26 x27 x28 x29 x30 x31 x32 x33 x34 x35 x36 x37 x38 x39 x40 x42 x43 x44 x45 x46 : Value} {lb : Array Value} {y B : Nat} {w4 : World} {L : List Int} {R S : Nat → Prop} {z1 z2 z3 z4 z5 : String}
    (hl₀ : w4.heap[l₀]? = some (.loop r₀)) (hseq : ∀ V, Below w4.heap.size w4 V → SeqAt (n - 1) 78 lb (fun m => #[.int .i64 m]) L R V) (hR : ∀ k, R k → k < w4.heap.size) (hS : ∀ k, S k → Tn w4.heap.size R k)
    (I Ix : List Int → World → Prop) (hI : ∀ pre A A', I pre A → Below w4.heap.size A A' → I pre A') (hIx : ∀ pre A A', Ix pre A → Below w4.heap.size A A' → Ix pre A') (h0 : I [] w4)
    (hbox : ∀ pre A, I pre A → Has A B #[.func (.yield y) #[] #[]])
    (hY : ∀ pre x A, I pre A → pre ++ [x] <+: L → w4.heap.size ≤ A.heap.size → YieldAt Fence.wide nn Try.prog y #[.int .i64 x] A fun e A' => (e = .returned (.bool true) ∧ I (pre ++ [x]) A' ∧ Only S A A') ∨ (e = .returned (.bool false) ∧ Ix (pre ++ [x]) A' ∧ Only S A A'))
    (hdone : ∀ a' A, I L A → Q .normal a' A) (hstop : ∀ a' pre A, pre <+: L → Ix pre A → Q .ret a' A) :
    (Code.rangeFunc (Operand.tmp 41) #[42] (Code.region 5 #[{ dst := some 6, op := Op.assign (Operand.tmp 42), type := 3, pos := z1, after := #[], guard := none }] false) (Code.block 3 ((Code.region 6 #[{ dst := some 43, op := Op.load 85 (Operand.tmp 4), type := 85, pos := z2, after := #[], guard := none }, { dst := some 44, op := Op.move (Operand.tmp 6), type := 3, pos := z3, after := #[], guard := none }, { dst := some 45, op := Op.call { callee := Callee.value (Operand.tmp 43), args := #[Operand.tmp 44], argTypes := #[3] }, type := 4, pos := z4, after := #[{ on := 0, ground := Ground.data }, { on := 1, ground := Ground.data }], guard := none }, { dst := some 46, op := Op.unOp UnOp.not 4 (Operand.tmp 45), type := 4, pos := z5, after := #[{ on := 2, ground := Ground.data }], guard := none }] false).seq (Code.cond (Operand.tmp 46) Code.ret Code.skip)))).wpIn (Fence.wide.inRound l₀) n Try.prog Q { tmps := #[x0, x1, x2, x3, .pointer (some ⟨B, 0, none⟩), x5, x6, x7, x8, x9, x10, x11, x12, x13, x14, x15, x16, x17, x18, x19, x20, x21, x22, x23, x24, x25, x26, x27, x28, x29, x30, x31, x32, x33, x34, x35, x36, x37, x38, x39, x40, .func (.func 78) #[] lb, x42, x43, x44, x45, x46], defers := [] } w4 := by
  have hY' : Hid _ := hY
  have hI' : Hid _ := hI
  have hdone' : Hid _ := hdone
  have hstop' : Hid _ := hstop
  clear hY hdone hstop
  refine range_in (n := n) (gf := 78) (enc := fun m : Int => #[.int .i64 m]) (L := L) (R := R) hl₀ rfl (enters_of Try.func78 (by kernel_rfl) rfl) (fun _ => rfl) hseq hR
    (fun pre A => Hid (I pre A)) (fun c pre A => c = .ret ∧ Ix pre A) (fun m a' A => a' = { tmps := #[x0, x1, x2, x3, .pointer (some ⟨B, 0, none⟩), x5, .int .i64 m, x7, x8, x9, x10, x11, x12, x13, x14, x15, x16, x17, x18, x19, x20, x21, x22, x23, x24, x25, x26, x27, x28, x29, x30, x31, x32, x33, x34, x35, x36, x37, x38, x39, x40, .func (.func 78) #[] lb, .int .i64 m, x43, x44, x45, x46], defers := [] })
    (fun pre A A' h hb => hI pre A A' h hb) (fun c pre A A' h hb => ⟨h.1, hIx pre A A' h.2 hb⟩) (fun _ _ _ _ h _ => h) h0 ?assign ?body (fun A h _ => hdone'.out _ _ h) ?stop
  case assign =>
    intro l pre m A K hi hz hK
    gi_wp2
    exact hK _ _ (Below.refl _ _) rfl
  case body =>
    rintro pre m a' A hi rfl hp hz
    obtain ⟨_, q0, _⟩ := id (hbox pre A hi.out)
    obtain ⟨fn, tmps, assign, body, hy, hRd⟩ := hY'.out pre m A hi.out hp (by omega)
    gi_wp2
    refine ⟨fun h => (by cases h), round_any (hRd.mono ?_)⟩
    rintro e A3 (⟨rfl, h1, h2⟩ | ⟨rfl, h1, h2⟩)
    · gi_wp2
      exact ⟨h2.mono hS, h1⟩
    · gi_wp2
      exact ⟨h2.mono hS, rfl, h1⟩
  case stop =>
    rintro c pre A hp ⟨rfl, h⟩ hz
    gi_wp2
    exact hstop'.out _ _ _ hp h
end Go.Proofs.Ytddphepgcihdbaa
