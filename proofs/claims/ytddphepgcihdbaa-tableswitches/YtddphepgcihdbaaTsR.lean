import Derived.Test.YtddphepgcihdbaaTvP
import Derived.ArgAppend
import Derived.OwnWalkIn
namespace Go.Proofs.Ytddphepgcihdbaa
open Go.RowKit Go.Shelf
set_option linter.unusedVariables false
set_option linter.unusedSimpArgs false

attribute [local go_sem] Oper.semAt_some
theorem wpListIn_append_grows {F : Fence} {nn : Nat} {P : Program} (w : World) {ops : Array Oper} {rest : List Oper} {o : Oper} {a : Act} {Q : Exit → Act → World → Prop}
    (hg : o.guard = none) (s x : Operand) (t : TypeId) (hop : o.op = Op.call { callee := Callee.builtin Builtin.append, args := #[s, x], argTypes := #[t, t] })
    (e : TypeId) (i : TypeInfo) (z : Value) (size bytes : Nat) (h1 : P.underlying t = some (.slice e)) (h2 : P.info? e = some i) (h3 : i.zero = some z) (h4 : i.size = size) (h5 : i.bytes = bytes) (h6 : z.cells.size = size) (h7 : 0 < size)
    (ao : Option Addr) (n cap : Nat) (olds : List Value) (hs : a.eval s = .slice ao n cap) (hnone : ao = none → n = 0 ∧ cap = 0) (hlo : olds.length = n * size) (holds : ∀ b, ao = some b → ∀ j u, olds[j]? = some u → w.cell? (b.add j) = some u)
    (ad : Addr) (m c : Nat) (news : List Value) (hx : a.eval x = .slice (some ad) m c) (hn : news.length = m * size) (hc : ∀ j u, news[j]? = some u → w.cell? (ad.add j) = some u) (h1c : ∀ u ∈ news, u.oneCell' = true)
    (hfull : cap < n + m) (b1 : n + m ≤ maxLen) (b2 : (n + m) * bytes ≤ 140737488355328)
    (hK : ∀ v' w', w'.ownsRow w.heap.size e size v' (n + m) (olds ++ news) → w.grownBy w' none → wpListIn F nn P ops Q rest (a.put o.dst v') w') :
    wpListIn F nn P ops Q (o :: rest) a w := by
  refine wpListIn_plain hg fun K hK' => ?_
  cases ao with
  | some b =>
    obtain ⟨v', w', hrun, r1, r2⟩ := run_append_arg_grows (P := P) w t o.type e i z size bytes h1 h2 h3 h4 h5 h6 h7 b n cap olds hlo (holds b rfl) ad m c news hn hc hfull b1 b2
    unfold Oper.wpIn
    refine ⟨?_, ?_⟩
    · simp [Oper.about, hop, resolve, Target.leads, Sem.run_pure]
    · rw [Oper.semAt_plain F _ _ (by rw [hop]; intro c hc'; cases hc')]
      simp [execOp, hop, resolve, invoke, builtin, hs, hx, hrun, Result.andThen]
      exact hK' _ _ (hK v' w' r1 r2)
  | none =>
    obtain ⟨rfl, rfl⟩ := hnone rfl
    obtain rfl : olds = [] := List.eq_nil_of_length_eq_zero (by simpa using hlo)
    obtain ⟨v', w', hrun, r1, r2, _⟩ := run_append_own (P := P) w w.heap.size t o.type e i z size bytes h1 h2 h3 h4 h5 h6 h7 (.slice none 0 0) 0 [] (World.ownsRow_nil w _ e size) ad m c news hn hc h1c b1 b2 (Nat.le_refl _)
    unfold Oper.wpIn
    refine ⟨?_, ?_⟩
    · simp [Oper.about, hop, resolve, Target.leads, Sem.run_pure]
    · rw [Oper.semAt_plain F _ _ (by rw [hop]; intro c hc'; cases hc')]
      simp [execOp, hop, resolve, invoke, builtin, hs, hx, hrun, Result.andThen]
      exact hK' _ _ (hK v' w' r1 r2)
theorem wpListIn_append_mine {F : Fence} {nn : Nat} {P : Program} (w : World) {ops : Array Oper} {rest : List Oper} {o : Oper} {a : Act} {Q : Exit → Act → World → Prop}
    (hg : o.guard = none) (s x : Operand) (t : TypeId) (hop : o.op = Op.call { callee := Callee.builtin Builtin.append, args := #[s, x], argTypes := #[t, t] })
    (base : Nat) (e : TypeId) (i : TypeInfo) (z : Value) (size bytes : Nat) (h1 : P.underlying t = some (.slice e)) (h2 : P.info? e = some i) (h3 : i.zero = some z) (h4 : i.size = size) (h5 : i.bytes = bytes) (h6 : z.cells.size = size) (h7 : 0 < size)
    (v : Value) (n : Nat) (xs : List Value) (hs : a.eval s = v) (hown : w.ownsRow base e size v n xs)
    (ad : Addr) (m c : Nat) (news : List Value) (hx : a.eval x = .slice (some ad) m c) (hn : news.length = m * size) (hc : ∀ j u, news[j]? = some u → w.cell? (ad.add j) = some u) (h1c : ∀ u ∈ news, u.oneCell' = true)
    (hm : 0 < m) (b1 : n + m ≤ maxLen) (b2 : (n + m) * bytes ≤ 140737488355328) (hbase : base ≤ w.heap.size)
    (hK : ∀ g' cap' w', w'.ownsRow base e size (.slice (some ⟨g', 0, none⟩) (n + m) cap') (n + m) (xs ++ news) → w.grownBy w' v.ownBlock → (v.ownBlock = some g' ∨ w.heap.size ≤ g') → (∀ g, v.ownBlock = some g → ∀ j u, xs[j]? = some u → w'.cell? ⟨g, j, none⟩ = some u) → n + m ≤ cap' → wpListIn F nn P ops Q rest (a.put o.dst (.slice (some ⟨g', 0, none⟩) (n + m) cap')) w') :
    wpListIn F nn P ops Q (o :: rest) a w := by
  have grows : ∀ (ao : Option Addr) (cap : Nat), v = .slice ao n cap → (ao = none → n = 0 ∧ cap = 0) → (∀ b, ao = some b → ∃ g, b = ⟨g, 0, none⟩) → cap < n + m → wpListIn F nn P ops Q (o :: rest) a w := by
    intro ao cap hv hnone hb0 hfull
    refine wpListIn_append_grows w hg s x t hop e i z size bytes h1 h2 h3 h4 h5 h6 h7 ao n cap xs (hs.trans hv) hnone hown.1 ?_ ad m c news hx hn hc h1c hfull b1 b2 ?_
    · intro b hb j u hu
      obtain ⟨g, rfl⟩ := hb0 b hb
      rw [Go.WideShapes.add_plain, Nat.zero_add]
      exact own_reads hown (by rw [hv, hb]; rfl) j u hu
    · intro v' w' hown' hgrow
      obtain ⟨g', cap', rfl, hcap, hg', _⟩ := own_block hown' (by omega)
      refine hK g' cap' w' (own_mono hown' hbase) ⟨hgrow.os, hgrow.tape, hgrow.output, hgrow.size, fun k hk _ => hgrow.block k hk (by simp)⟩ (.inr hg') ?_ hcap
      intro g hgv j u hu
      have hlt := (own_lt hown g hgv).2
      rw [← own_reads hown hgv j u hu]
      exact World.cell?_of_block (hgrow.block g hlt (by simp))
  rcases hown.2 with ⟨hv, h0⟩ | ⟨g, cap, cur, hv, hbg, hcur, hnc, hrest⟩
  · exact grows none 0 (by rw [hv, h0]) (fun _ => ⟨h0, rfl⟩) (fun b hb => by cases hb) (by omega)
  · by_cases hr : n + m ≤ cap
    · subst hv
      refine wpListIn_append_fits w hg s x t hop base e i size h1 h2 h4 g n cap xs hs hown ad m c news hx hn hc h1c hr ?_
      intro w' hown' hgrow
      refine hK g cap w' hown' hgrow (.inl rfl) ?_ hr
      intro g1 hg1 j u hu
      cases hg1
      refine own_reads hown' rfl j u ?_
      rw [List.getElem?_append_left (List.getElem?_eq_some_iff.1 hu).1]; exact hu
    · exact grows (some ⟨g, 0, none⟩) cap hv (fun h => by cases h) (fun b hb => by cases hb; exact ⟨g, rfl⟩) (by omega)

theorem info3s : (Try.prog.info? 3).map (fun i => (i.zero, i.size, i.bytes)) = some (some (.int .i64 0), 1, 8) := by kernel_rfl
theorem int_len (x : Int) : (Int.cs x).length = 1 := rfl
/-- Two rows of numbers in two boxes, each a row of its own. -/
structure At2 (w4 : World) (b1 b2 q1 q2 : Nat) (v1 v2 : Value) (L1 L2 : List Int) (A : World) : Prop where
  h1 : Has A b1 #[v1]
  h2 : Has A b2 #[v2]
  r1 : A.ownsRow 0 3 1 v1 L1.length (cellsF Int.cs L1)
  r2 : A.ownsRow 0 3 1 v2 L2.length (cellsF Int.cs L2)
  ne : ∀ k, v1.ownBlock = some k → v2.ownBlock = some k → False
  n1 : ∀ k, v1.ownBlock = some k → k = q1 ∨ w4.heap.size ≤ k
  n2 : ∀ k, v2.ownBlock = some k → k = q2 ∨ w4.heap.size ≤ k
  ho : Only (fun k => k = b1 ∨ k = b2 ∨ k = q1 ∨ k = q2) w4 A
  sd : b1 ≠ b2 ∧ b1 < w4.heap.size ∧ b2 < w4.heap.size ∧ q1 ≠ b1 ∧ q1 ≠ b2 ∧ q2 ≠ b1 ∧ q2 ≠ b2
/-- The blocks of the two rows. -/
def UV (v1 v2 : Value) (k : Nat) : Prop := v1.ownBlock = some k ∨ v2.ownBlock = some k
theorem At2.swap {w4 : World} {b1 b2 q1 q2 : Nat} {v1 v2 : Value} {L1 L2 : List Int} {A : World} (h : At2 w4 b1 b2 q1 q2 v1 v2 L1 L2 A) : At2 w4 b2 b1 q2 q1 v2 v1 L2 L1 A :=
  ⟨h.h2, h.h1, h.r2, h.r1, fun k a b => h.ne k b a, h.n2, h.n1, h.ho.mono (fun k hk => by rcases hk with h | h | h | h <;> simp [h]), by have := h.sd; omega⟩
theorem At2.lt {w4 : World} {b1 b2 q1 q2 : Nat} {v1 v2 : Value} {L1 L2 : List Int} {A : World} (h : At2 w4 b1 b2 q1 q2 v1 v2 L1 L2 A) : ∀ k, UV v1 v2 k → k < A.heap.size ∧ k ≠ b1 ∧ k ≠ b2 := by
  have hs := h.sd
  intro k hk
  rcases hk with hk | hk
  · refine ⟨(own_lt h.r1 k hk).2, ?_⟩
    rcases h.n1 k hk with e | e <;> omega
  · refine ⟨(own_lt h.r2 k hk).2, ?_⟩
    rcases h.n2 k hk with e | e <;> omega
theorem At2.it {w4 : World} {b1 b2 q1 q2 : Nat} {v1 v2 : Value} {L1 L2 : List Int} {A A' : World} (h : At2 w4 b1 b2 q1 q2 v1 v2 L1 L2 A) (hb : Only (It w4.heap.size (UV v1 v2)) A A') : At2 w4 b1 b2 q1 q2 v1 v2 L1 L2 A' := by
  have hs := h.sd
  exact ⟨h.h1.only hb (fun x => by have := x.1; omega), h.h2.only hb (fun x => by have := x.1; omega), own_keep h.r1 (fun g hg => hb.block g (own_lt h.r1 g hg).2 (fun x => x.2 (.inl hg))), own_keep h.r2 (fun g hg => hb.block g (own_lt h.r2 g hg).2 (fun x => x.2 (.inr hg))), h.ne, h.n1, h.n2, h.ho.itZ hb (Nat.le_refl _), hs⟩
/-- A number more in the first. -/
theorem At2.put {w4 : World} {b1 b2 q1 q2 : Nat} {v1 v2 : Value} {L1 L2 : List Int} {A w9 : World} {o : Obj} {g9 cap9 : Nat} (h : At2 w4 b1 b2 q1 q2 v1 v2 L1 L2 A) (x : Int) (o9 : w9.ownsRow 0 3 1 (.slice (some ⟨g9, 0, none⟩) (L1.length + 1) cap9) (L1.length + 1) (cellsF Int.cs L1 ++ [.int .i64 x])) (hg9 : (A.alloc o).grownBy w9 v1.ownBlock) (hat : v1.ownBlock = some g9 ∨ (A.alloc o).heap.size ≤ g9) :
    At2 w4 b1 b2 q1 q2 (.slice (some ⟨g9, 0, none⟩) (L1.length + 1) cap9) v2 (L1 ++ [x]) L2 (w9.setCell ⟨b1, 0, none⟩ (.slice (some ⟨g9, 0, none⟩) (L1.length + 1) cap9)) ∧ Only (fun k => k = b1 ∨ v1.ownBlock = some k) A (w9.setCell ⟨b1, 0, none⟩ (.slice (some ⟨g9, 0, none⟩) (L1.length + 1) cap9)) ∧ (v1.ownBlock = some g9 ∨ A.heap.size ≤ g9) ∧ g9 < w9.heap.size := by
  have hs := h.sd
  have hlt := h.lt
  have hz := h.ho.size
  have hoz : A.heap.size ≤ (A.alloc o).heap.size := by simp
  have oA : Only (fun k => v1.ownBlock = some k) A w9 := only_grown ((Only.refl _ A).alloc o) hg9 (fun k hk => .inl hk)
  have hat' : v1.ownBlock = some g9 ∨ A.heap.size ≤ g9 := hat.imp id (fun h => by omega)
  have hg1 : g9 ≠ b1 ∧ g9 ≠ b2 := by
    rcases hat' with e | e
    · exact ⟨(hlt g9 (.inl e)).2.1, (hlt g9 (.inl e)).2.2⟩
    · omega
  have k1 : Has w9 b1 #[v1] := h.h1.only oA (fun e => (hlt b1 (.inl e)).2.1 rfl)
  have k2 : Has w9 b2 #[v2] := h.h2.only oA (fun e => (hlt b2 (.inl e)).2.2 rfl)
  have r2 : w9.ownsRow 0 3 1 v2 L2.length (cellsF Int.cs L2) := own_keep h.r2 (fun g hg => oA.block g (own_lt h.r2 g hg).2 (fun e => h.ne g e hg))
  have oB : Only (fun k => k = b1) w9 (w9.setCell ⟨b1, 0, none⟩ (.slice (some ⟨g9, 0, none⟩) (L1.length + 1) cap9)) := only_of_set _ _ _ _
  have hc : cellsF Int.cs (L1 ++ [x]) = cellsF Int.cs L1 ++ [.int .i64 x] := by rw [cellsF_append]; simp [cellsF, Int.cs]
  have hl : (L1 ++ [x]).length = L1.length + 1 := by simp
  have hO : Only (fun k => k = b1 ∨ v1.ownBlock = some k) A (w9.setCell ⟨b1, 0, none⟩ (.slice (some ⟨g9, 0, none⟩) (L1.length + 1) cap9)) := (oA.mono fun k hk => .inr hk).trans (oB.mono fun k hk => .inl hk)
  refine ⟨⟨?_, k2.only oB (fun e => hs.1 e.symm), ?_, own_keep r2 (fun g hg => oB.block g (own_lt r2 g hg).2 (fun e => (hlt g (.inr hg)).2.1 e)), ?_, ?_, h.n2, ?_, hs⟩, hO, hat', (own_lt o9 g9 rfl).2⟩
  · have := k1.set 0 (by simp) (.slice (some ⟨g9, 0, none⟩) (L1.length + 1) cap9); simpa using this
  · rw [hc, hl]
    exact own_keep o9 (fun g hg => oB.block g (own_lt o9 g hg).2 (fun e => by cases hg; exact hg1.1 e))
  · intro k e1 e2
    cases e1
    rcases hat' with e | e
    · exact h.ne g9 e e2
    · have := (hlt g9 (.inr e2)).1; omega
  · intro k e1
    cases e1
    rcases hat' with e | e
    · exact h.n1 g9 e
    · exact .inr (by show w4.heap.size ≤ g9; omega)
  · refine ⟨hO.os.trans h.ho.os, hO.tape.trans h.ho.tape, hO.output.trans h.ho.output, Nat.le_trans hz hO.size, fun k hk hn => (hO.block k (by omega) (fun e => ?_)).trans (h.ho.block k hk hn)⟩
    rcases e with e | e
    · exact hn (.inl e)
    · rcases h.n1 k e with e2 | e2
      · exact hn (.inr (.inr (.inl e2)))
      · omega
set_option maxRecDepth 100000 in
set_option maxHeartbeats 8000000 in
theorem rngS {n F b1 b2 q1 q2 : Nat} {Q : Exit → Act → World → Prop} {x0 x1 x2 x3 x4 x5 x6 x7 x8 x9 x10 x11 x12 x15 x16 x17 x18 x19 x20 x21 x22 x23 x24 x25 x26 x27 x28 x29 x30 x31 x32 x33 x34 x35 x36 x37 x38 x39 x40 x41 x42 x43 x44 x45 x46 x47 x48 x49 x51 x52 x53 x54 x55 x56 x57 x58 x59 x60 x61 x62 x63 x64 x65 x66 x67 x68 x69 x70 x71 x72 x73 x74 x75 x76 x77 x78 x79 x80 x81 x82 x83 x84 x85 x86 x87 x88 x89 x90 x91 x92 x93 x94 x95 x96 x97 x98 x99 x100 x101 x102 x103 x104 x105 x106 x107 x108 x109 x110 x111 x112 x113 x114 x115 x116 x117 x118 x119 x120 x121 x122 x123 x124 x125 x126 x127 x128 x129 x130 x131 x132 x133 x134 x135 x136 x137 x138 x139 x140 x141 x142 x143 x144 x145 x146 x147 x148 x149 x150 x151 x152 x153 x154 x155 x156 x157 x158 x159 x160 x161 x162 x163 x164 x165 x166 x167 x168 x169 x170 x171 x172 x173 x174 x175 x176 x177 x178 x179 x180 x181 x182 x183 x184 x185 x186 x187 x188 x189 x190 x191 x192 x193 x194 x195 x196 x197 x198 x199 x200 x201 x202 x203 x204 x205 x206 x207 x208 x209 x210 x211 x212 x213 x214 x215 x216 x217 x218 x219 x220 x221 x222 x223 x224 x225 x226 x227 x228 x229 x230 x231 x232 x233 x234 x235 x236 x237 : Value} {lb : Array Value} {L : List (Int × Int)} {R : Nat → Prop} {z1 z2 z3 z4 z5 z6 z7 z8 z9 z10 z11 z12 : String} {va vb : Value} (w4 : World)
    (hseq : ∀ V, Below w4.heap.size w4 V → SeqU (n - 1) F lb (fun p : Int × Int => #[.int .i64 p.1, .int .i64 p.2]) L R V) (hRk : ∀ k, R k → k < w4.heap.size) (hR1 : ¬ R b1) (hR2 : ¬ R b2) (hRu : NU R (UV va vb)) (eg : ∀ args w, (callFunc F args).run Try.prog w = .ok (.enter F args) w)
    (h0 : At2 w4 b1 b2 q1 q2 va vb [] [] w4) (hll : L.length ≤ 44640)
    (hdone : ∀ v1 v2 A, At2 w4 b1 b2 q1 q2 v1 v2 (L.map (·.1)) (L.map (·.2)) A → A.heap[w4.heap.size]? = some (.deferred (some [])) → Q .normal { tmps := #[x0, x1, x2, x3, x4, x5, x6, x7, x8, x9, x10, x11, x12, .pointer (some ⟨b1, 0, none⟩), .pointer (some ⟨b2, 0, none⟩), x15, x16, x17, x18, x19, x20, x21, x22, x23, x24, x25, x26, x27, x28, x29, x30, x31, x32, x33, x34, x35, x36, x37, x38, x39, x40, x41, x42, x43, x44, x45, x46, x47, x48, x49, .func (.func F) #[] lb, x51, x52, x53, x54, x55, x56, x57, x58, x59, x60, x61, x62, x63, x64, x65, x66, x67, x68, x69, x70, x71, x72, x73, x74, x75, x76, x77, x78, x79, x80, x81, x82, x83, x84, x85, x86, x87, x88, x89, x90, x91, x92, x93, x94, x95, x96, x97, x98, x99, x100, x101, x102, x103, x104, x105, x106, x107, x108, x109, x110, x111, x112, x113, x114, x115, x116, x117, x118, x119, x120, x121, x122, x123, x124, x125, x126, x127, x128, x129, x130, x131, x132, x133, x134, x135, x136, x137, x138, x139, x140, x141, x142, x143, x144, x145, x146, x147, x148, x149, x150, x151, x152, x153, x154, x155, x156, x157, x158, x159, x160, x161, x162, x163, x164, x165, x166, x167, x168, x169, x170, x171, x172, x173, x174, x175, x176, x177, x178, x179, x180, x181, x182, x183, x184, x185, x186, x187, x188, x189, x190, x191, x192, x193, x194, x195, x196, x197, x198, x199, x200, x201, x202, x203, x204, x205, x206, x207, x208, x209, x210, x211, x212, x213, x214, x215, x216, x217, x218, x219, x220, x221, x222, x223, x224, x225, x226, x227, x228, x229, x230, x231, x232, x233, x234, x235, x236, x237], defers := [{ target := .collected w4.heap.size, args := #[] }] } A) :
    (Code.rangeFunc (Operand.tmp 50) #[51, 52] ((Code.region 10 #[{ dst := some 16, op := Op.assign (Operand.tmp 51), type := 3, pos := z1, after := #[], guard := none }] false).seq (Code.region 11 #[{ dst := some 17, op := Op.assign (Operand.tmp 52), type := 3, pos := z2, after := #[], guard := none }] false)) (Code.block 1 ((Code.region 12 #[{ dst := some 53, op := Op.load 22 (Operand.tmp 13), type := 22, pos := z3, after := #[], guard := none }, { dst := some 54, op := Op.move (Operand.tmp 16), type := 3, pos := z4, after := #[], guard := none }, { dst := some 55, op := Op.buildSlice 22 1 #[(0, Operand.tmp 54)], type := 22, pos := z5, after := #[{ on := 1, ground := Ground.data }], guard := none }, { dst := some 56, op := Op.call { callee := Callee.builtin Builtin.append, args := #[Operand.tmp 53, Operand.tmp 55], argTypes := #[22, 22] }, type := 22, pos := z6, after := #[{ on := 0, ground := Ground.data }, { on := 2, ground := Ground.data }], guard := none }, { dst := none, op := Op.store 22 (Operand.tmp 13) (Operand.tmp 56), type := 0, pos := z7, after := #[{ on := 3, ground := Ground.data }, { on := 3, ground := Ground.chain }, { on := 0, ground := Ground.phase }, { on := 1, ground := Ground.phase }, { on := 2, ground := Ground.phase }, { on := 3, ground := Ground.phase }], guard := none }] false).seq (Code.region 13 #[{ dst := some 57, op := Op.load 22 (Operand.tmp 14), type := 22, pos := z8, after := #[], guard := none }, { dst := some 58, op := Op.move (Operand.tmp 17), type := 3, pos := z9, after := #[], guard := none }, { dst := some 59, op := Op.buildSlice 22 1 #[(0, Operand.tmp 58)], type := 22, pos := z10, after := #[{ on := 1, ground := Ground.data }], guard := none }, { dst := some 60, op := Op.call { callee := Callee.builtin Builtin.append, args := #[Operand.tmp 57, Operand.tmp 59], argTypes := #[22, 22] }, type := 22, pos := z11, after := #[{ on := 0, ground := Ground.data }, { on := 2, ground := Ground.data }], guard := none }, { dst := none, op := Op.store 22 (Operand.tmp 14) (Operand.tmp 60), type := 0, pos := z12, after := #[{ on := 3, ground := Ground.data }, { on := 3, ground := Ground.chain }, { on := 0, ground := Ground.phase }, { on := 1, ground := Ground.phase }, { on := 2, ground := Ground.phase }, { on := 3, ground := Ground.phase }], guard := none }] false)))).wpIn Fence.wide n Try.prog Q { tmps := #[x0, x1, x2, x3, x4, x5, x6, x7, x8, x9, x10, x11, x12, .pointer (some ⟨b1, 0, none⟩), .pointer (some ⟨b2, 0, none⟩), x15, x16, x17, x18, x19, x20, x21, x22, x23, x24, x25, x26, x27, x28, x29, x30, x31, x32, x33, x34, x35, x36, x37, x38, x39, x40, x41, x42, x43, x44, x45, x46, x47, x48, x49, .func (.func F) #[] lb, x51, x52, x53, x54, x55, x56, x57, x58, x59, x60, x61, x62, x63, x64, x65, x66, x67, x68, x69, x70, x71, x72, x73, x74, x75, x76, x77, x78, x79, x80, x81, x82, x83, x84, x85, x86, x87, x88, x89, x90, x91, x92, x93, x94, x95, x96, x97, x98, x99, x100, x101, x102, x103, x104, x105, x106, x107, x108, x109, x110, x111, x112, x113, x114, x115, x116, x117, x118, x119, x120, x121, x122, x123, x124, x125, x126, x127, x128, x129, x130, x131, x132, x133, x134, x135, x136, x137, x138, x139, x140, x141, x142, x143, x144, x145, x146, x147, x148, x149, x150, x151, x152, x153, x154, x155, x156, x157, x158, x159, x160, x161, x162, x163, x164, x165, x166, x167, x168, x169, x170, x171, x172, x173, x174, x175, x176, x177, x178, x179, x180, x181, x182, x183, x184, x185, x186, x187, x188, x189, x190, x191, x192, x193, x194, x195, x196, x197, x198, x199, x200, x201, x202, x203, x204, x205, x206, x207, x208, x209, x210, x211, x212, x213, x214, x215, x216, x217, x218, x219, x220, x221, x222, x223, x224, x225, x226, x227, x228, x229, x230, x231, x232, x233, x234, x235, x236, x237], defers := [] } w4 := by
  have hdone' : Hid _ := hdone
  obtain ⟨ti, hi, hi0, hi1, hi2⟩ := info_parts info3s
  have h0' : Hid _ := h0
  have hsd := h0.sd
  clear hdone h0
  refine rangeU_out (n := n) (gf := F) (enc := fun p : Int × Int => #[.int .i64 p.1, .int .i64 p.2]) (L := L) (R := R) rfl eg (fun _ => rfl) hseq hRk
    (fun pre U A => ∃ v1 v2, U = UV v1 v2 ∧ Hid (At2 w4 b1 b2 q1 q2 v1 v2 (pre.map (·.1)) (pre.map (·.2)) A)) (fun _ _ _ _ => False) (fun x U a' A => a' = { tmps := #[x0, x1, x2, x3, x4, x5, x6, x7, x8, x9, x10, x11, x12, .pointer (some ⟨b1, 0, none⟩), .pointer (some ⟨b2, 0, none⟩), x15, .int .i64 x.1, .int .i64 x.2, x18, x19, x20, x21, x22, x23, x24, x25, x26, x27, x28, x29, x30, x31, x32, x33, x34, x35, x36, x37, x38, x39, x40, x41, x42, x43, x44, x45, x46, x47, x48, x49, .func (.func F) #[] lb, .int .i64 x.1, .int .i64 x.2, x53, x54, x55, x56, x57, x58, x59, x60, x61, x62, x63, x64, x65, x66, x67, x68, x69, x70, x71, x72, x73, x74, x75, x76, x77, x78, x79, x80, x81, x82, x83, x84, x85, x86, x87, x88, x89, x90, x91, x92, x93, x94, x95, x96, x97, x98, x99, x100, x101, x102, x103, x104, x105, x106, x107, x108, x109, x110, x111, x112, x113, x114, x115, x116, x117, x118, x119, x120, x121, x122, x123, x124, x125, x126, x127, x128, x129, x130, x131, x132, x133, x134, x135, x136, x137, x138, x139, x140, x141, x142, x143, x144, x145, x146, x147, x148, x149, x150, x151, x152, x153, x154, x155, x156, x157, x158, x159, x160, x161, x162, x163, x164, x165, x166, x167, x168, x169, x170, x171, x172, x173, x174, x175, x176, x177, x178, x179, x180, x181, x182, x183, x184, x185, x186, x187, x188, x189, x190, x191, x192, x193, x194, x195, x196, x197, x198, x199, x200, x201, x202, x203, x204, x205, x206, x207, x208, x209, x210, x211, x212, x213, x214, x215, x216, x217, x218, x219, x220, x221, x222, x223, x224, x225, x226, x227, x228, x229, x230, x231, x232, x233, x234, x235, x236, x237], defers := [] })
    ?hIU ?hI (fun _ _ _ _ _ h _ => h) (fun _ _ _ _ _ h _ => h) (UV va vb) hRu ⟨va, vb, rfl, h0'.out⟩ ?assign ?body ?done (fun _ _ _ _ _ h => h.elim)
  case hIU =>
    rintro pre U A ⟨v1, v2, rfl, h⟩ k hk
    exact (h.out.lt k hk).1
  case hI =>
    rintro pre U A B ⟨v1, v2, rfl, h⟩ hb
    exact ⟨v1, v2, rfl, h.out.it hb⟩
  case assign =>
    intro l pre x U A K hi hz hK
    gi_wp2
    exact hK _ _ (Below.refl _ _) rfl
  case body =>
    rintro pre x U a' A ⟨v1, v2, rfl, h⟩ rfl hnl hp hz ⟨r₀, hr₀⟩
    obtain ⟨rr, hr⟩ := hp
    have hlt : pre.length < L.length := by rw [← hr]; simp
    have hl1 : (pre.map (·.1)).length < 44640 := by rw [List.length_map]; omega
    have hl2 : (pre.map (·.2)).length < 44640 := by rw [List.length_map]; omega
    have hn12 : b1 ≠ b2 := hsd.1
    have hn21 : b2 ≠ b1 := fun e => hsd.1 e.symm
    have e1 : (pre ++ [x]).map (·.1) = pre.map (·.1) ++ [x.1] := by simp
    have e2 : (pre ++ [x]).map (·.2) = pre.map (·.2) ++ [x.2] := by simp
    have hend : Hid (∀ w1 w2 A', At2 w4 b1 b2 q1 q2 w1 w2 (pre.map (·.1) ++ [x.1]) (pre.map (·.2) ++ [x.2]) A' → Gr (UV v1 v2) (UV w1 w2) A A' → Only (Tu w4.heap.size R (UV v1 v2)) A A' → ∀ a', endU (fun pre U A => ∃ v1 v2, U = UV v1 v2 ∧ Hid (At2 w4 b1 b2 q1 q2 v1 v2 (pre.map (·.1)) (pre.map (·.2)) A)) (fun _ _ _ _ => False) w4.heap.size R (UV v1 v2) (pre ++ [x]) A .normal a' A') :=
      fun w1 w2 A' h1 h2 h3 a' => ⟨_, h2, h3, w1, w2, rfl, by show At2 _ _ _ _ _ _ _ _ _ _; rw [e1, e2]; exact h1⟩
    clear e1 e2 hr
    generalize pre.map (·.1) = L1 at *
    generalize pre.map (·.2) = L2 at *
    obtain ⟨_, qa, fa⟩ := id h.out.h1
    gi_wp2_with (first
      | (gi_at_builtin; refine wpListIn_append_mine _ rfl _ _ 22 rfl 0 3 ti _ 1 8 Try.underlying22 hi hi0 hi1 hi2 rfl (by decide) v1 L1.length (cellsF Int.cs L1) rfl (own_bel h.out.r1 bel1) ⟨A.heap.size, 0, none⟩ 1 1 [.int .i64 x.1] rfl rfl (cells_at (W := A) rfl _ _) (all_one rfl) (by decide) (by unfold maxLen; omega) (by omega) (Nat.zero_le _) ?_; intro g9 cap9 w9 o9 hg9 hat9 hkp9 hcap9; obtain ⟨hB, hO1, hat1, hz1⟩ := h.out.put x.1 o9 hg9 hat9; obtain ⟨_, qb, fb⟩ := id (has_grown (h.out.h1.alloc _) hg9 (fun e => (h.out.lt _ (.inl e)).2.1 rfl)); obtain ⟨_, qc, fc⟩ := id hB.h2)
      | (gi_at_builtin; refine wpListIn_append_mine _ rfl _ _ 22 rfl 0 3 ti _ 1 8 Try.underlying22 hi hi0 hi1 hi2 rfl (by decide) v2 L2.length (cellsF Int.cs L2) rfl (own_bel hB.r2 bel1) ⟨w9.heap.size, 0, none⟩ 1 1 [.int .i64 x.2] rfl rfl (cells_at (W := w9.setCell ⟨b1, 0, none⟩ (.slice (some ⟨g9, 0, none⟩) (L1.length + 1) cap9)) (by simp [World.setCell]) _ _) (all_one rfl) (by decide) (by unfold maxLen; omega) (by omega) (Nat.zero_le _) ?_; intro h9 dap9 w10 p9 hh9 hbt9 hlp9 hdap9; obtain ⟨hC, hO2, hat2, hz2⟩ := hB.swap.put x.2 p9 hh9 hbt9; obtain ⟨_, qd, fd⟩ := id (has_grown (hB.h2.alloc _) hh9 (fun e => (hB.lt _ (.inr e)).2.2 rfl))))
    have s1 := hO1.size
    have s2 := hO2.size
    refine hend.out _ _ _ hC.swap ?_ ?_ _
    · intro k hk
      rcases hk with hk | hk
      · cases hk
        refine ⟨hat1.imp (fun e => .inl e) id, ?_⟩
        have : (w9.setCell ⟨b1, 0, none⟩ (.slice (some ⟨g9, 0, none⟩) (L1.length + 1) cap9)).heap.size = w9.heap.size := by simp [World.setCell]
        show g9 < _
        omega
      · cases hk
        refine ⟨?_, ?_⟩
        · rcases hat2 with e | e
          · exact .inl (.inr e)
          · exact .inr (by show A.heap.size ≤ h9; omega)
        · show h9 < _
          simpa [World.setCell] using hz2
    · refine (hO1.mono ?_).trans (hO2.mono ?_)
      · rintro k (e | e)
        · exact .inl ⟨by omega, by rw [e]; exact hR1⟩
        · exact .inr (.inl e)
      · rintro k (e | e)
        · exact .inl ⟨by omega, by rw [e]; exact hR2⟩
        · exact .inr (.inr e)
  case done =>
    rintro U A ⟨v1, v2, rfl, h⟩ hnl hD hz
    exact hdone'.out v1 v2 A h.out hD
end Go.Proofs.Ytddphepgcihdbaa
