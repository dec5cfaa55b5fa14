import Derived.Test.YtddphepgcihdbaaTfB
import Derived.Test.YtddphepgcihdbaaRgE
import Derived.Test.YtddphepgcihdbaaTeA
namespace Go.Proofs.Ytddphepgcihdbaa
open Go.RowKit
set_option linter.unusedVariables false
set_option linter.unusedSimpArgs false

theorem bsz (a : Array UInt8) : (⟨a⟩ : ByteArray).size = a.size := rfl
theorem sl_one (w : World) (B : ByteArray) (k : Nat) (h : k < B.size) : (Instr.slice 9 (.string B) (some (.int .i64 (k : Int))) (some (.int .i64 ((k : Int) + 1))) none).run Try.prog w = .ok (.string (B.extract k (k + 1))) w := by
  have := run_slice_string (P := Try.prog) (w := w) 9 B .i64 .i64 (k : Int) ((k : Int) + 1) Try.underlying9 (by omega) (by omega) (by omega)
  simpa using this
/-- What stands in a made thing's timetable, cell by cell. -/
structure Tv where
  nm : Value
  d : Value
  w0 : Value
  w1 : Value
  w2 : Value
  w3 : Value
  w4 : Value
  w5 : Value
  w6 : Value
  s : Value
  x : Value
  h : Value
def Tv.cs (T : Tv) (s b : ByteArray) (p : Nat) : Array Value := #[T.nm, T.d, T.w0, T.w1, T.w2, T.w3, T.w4, T.w5, T.w6, T.s, T.x, T.h, .string s, .pointer (some ⟨p, 0, none⟩), .string b]
/-- A made thing stands in block mb; its choices in block p. -/
structure Md (w : World) (mb p : Nat) (L : List Int) (a : Option Addr) (c : Nat) (T : Tv) (Z : Nat) : Prop where
  has : ∃ s b, Has w mb (T.cs s b p) ∧ s.size ≤ Z ∧ b.size ≤ Z
  pk : ∃ k, Pk w p L a c k
  lt : p < mb
  ga : L = [] ∨ ∀ g o, a = some ⟨g, o, none⟩ → g < mb
theorem Pk.keep {w w' : World} {p : Nat} {L : List Int} {a : Option Addr} {c k : Nat} (h : Pk w p L a c k) (hs : w.heap.size ≤ w'.heap.size) (hp : w'.heap[p]? = w.heap[p]?) (hg : L = [] ∨ ∀ g o, a = some ⟨g, o, none⟩ → g < w.heap.size → w'.heap[g]? = w.heap[g]?) : Pk w' p L a c k := by
  refine ⟨h.has.blk hs hp, h.le, h.len, h.rng, ?_⟩
  rcases hg with e | hg
  · exact .inl e
  · rcases h.rd with e | ⟨g, o, e, h1, h2, h3⟩
    · exact .inl e
    · exact .inr ⟨g, o, e, Nat.lt_of_lt_of_le h1 hs, h2, fun i hi => (World.cell?_of_block (hg g o e h1)).trans (h3 i hi)⟩
theorem Pk.below {w w' : World} {p : Nat} {L : List Int} {a : Option Addr} {c k : Nat} (h : Pk w p L a c k) (hb : Below w.heap.size w w') : Pk w' p L a c k :=
  h.keep hb.size (hb.block p h.has.1) (.inr fun g o _ hl => hb.block g hl)
theorem Pk.set {w : World} {p mb q i : Nat} {L : List Int} {a : Option Addr} {c k : Nat} (h : Pk w p L a c k) (hn : p < mb) (hq : mb ≤ q) (ga : L = [] ∨ ∀ g o, a = some ⟨g, o, none⟩ → g < mb) (v : Value) : Pk (w.setCell ⟨q, i, none⟩ v) p L a c k :=
  h.keep (by simp [World.setCell]) (Below.heap_setCell _ _ _ _ (by show p ≠ q; omega)) (ga.imp id fun f g o e _ => Below.heap_setCell _ _ _ _ (by have := f g o e; show g ≠ q; omega))
theorem Has.txt {w : World} {mb p : Nat} {T : Tv} {s b : ByteArray} (h : Has w mb (T.cs s b p)) (s' : ByteArray) : Has (w.setCell ⟨mb, 12, none⟩ (.string s')) mb (T.cs s' b p) := by
  have := h.set 12 (by simp [Tv.cs]) (.string s')
  simpa [Tv.cs] using this
theorem Has.bare {w : World} {mb p : Nat} {T : Tv} {s b : ByteArray} (h : Has w mb (T.cs s b p)) (b' : ByteArray) : Has (w.setCell ⟨mb, 14, none⟩ (.string b')) mb (T.cs s b' p) := by
  have := h.set 14 (by simp [Tv.cs]) (.string b')
  simpa [Tv.cs] using this
theorem Md.mono {w : World} {mb p : Nat} {L : List Int} {a : Option Addr} {c : Nat} {T : Tv} {Z Z' : Nat} (h : Md w mb p L a c T Z) (hz : Z ≤ Z') : Md w mb p L a c T Z' := by
  obtain ⟨s, b, h1, h2, h3⟩ := h.has
  exact ⟨⟨s, b, h1, by omega, by omega⟩, h.pk, h.lt, h.ga⟩
theorem Md.keep {w w' : World} {mb p : Nat} {L : List Int} {a : Option Addr} {c : Nat} {T : Tv} {Z : Nat} (h : Md w mb p L a c T Z) (hs : w.heap.size ≤ w'.heap.size) (hm : w'.heap[mb]? = w.heap[mb]?) (hp : w'.heap[p]? = w.heap[p]?) (hg : L = [] ∨ ∀ g o, a = some ⟨g, o, none⟩ → g < w.heap.size → w'.heap[g]? = w.heap[g]?) : Md w' mb p L a c T Z := by
  obtain ⟨s, b, h1, h2, h3⟩ := h.has
  obtain ⟨k, hk⟩ := h.pk
  exact ⟨⟨s, b, h1.blk hs hm, h2, h3⟩, ⟨k, hk.keep hs hp hg⟩, h.lt, h.ga⟩
theorem Md.below {w w' : World} {mb p : Nat} {L : List Int} {a : Option Addr} {c : Nat} {T : Tv} {Z : Nat} (h : Md w mb p L a c T Z) (hb : Below w.heap.size w w') : Md w' mb p L a c T Z := by
  obtain ⟨s, b, h1, h2, h3⟩ := h.has
  obtain ⟨k, hk⟩ := h.pk
  exact ⟨⟨s, b, h1.below hb, h2, h3⟩, ⟨k, hk.below hb⟩, h.lt, h.ga⟩
theorem Md.far {w : World} {mb p q i : Nat} {L : List Int} {a : Option Addr} {c : Nat} {T : Tv} {Z : Nat} (h : Md w mb p L a c T Z) (hq : mb < q) (v : Value) : Md (w.setCell ⟨q, i, none⟩ v) mb p L a c T Z := by
  obtain ⟨s, b, h1, h2, h3⟩ := h.has
  obtain ⟨k, hk⟩ := h.pk
  exact ⟨⟨s, b, h1.far (by omega) v, h2, h3⟩, ⟨k, hk.set h.lt (Nat.le_of_lt hq) h.ga v⟩, h.lt, h.ga⟩
theorem Md.grown {w w' : World} {row : Option Nat} {mb p : Nat} {L : List Int} {a : Option Addr} {c : Nat} {T : Tv} {Z : Nat} (h : Md w mb p L a c T Z) (hg : w.grownBy w' row) (hr : ∀ q, row = some q → mb < q) : Md w' mb p L a c T Z := by
  have hl := h.lt
  obtain ⟨s, b, h1, h2, h3⟩ := h.has
  obtain ⟨k, hk⟩ := h.pk
  exact h.keep hg.size (hg.block mb h1.1 (fun e => by have := hr mb e.symm; omega)) (hg.block p hk.has.1 (fun e => by have := hr p e.symm; omega)) (h.ga.imp id fun f g o e hl => hg.block g hl (fun e' => by have := hr g e'.symm; have := f g o e; omega))
theorem Md.next {w w' : World} {mb p : Nat} {L : List Int} {a : Option Addr} {c k : Nat} {T : Tv} {Z : Nat} (h : Md w mb p L a c T Z) (hk : Pk w' p L a c k) (ho : Only (fun q => q = p) w w') : Md w' mb p L a c T Z := by
  have hl := h.lt
  obtain ⟨s, b, h1, h2, h3⟩ := h.has
  exact ⟨⟨s, b, h1.only ho (by show ¬ mb = p; omega), h2, h3⟩, ⟨k, hk⟩, h.lt, h.ga⟩
/-- The pointer to the choices. -/
theorem Md.ptr {w : World} {mb p : Nat} {L : List Int} {a : Option Addr} {c : Nat} {T : Tv} {Z : Nat} (h : Md w mb p L a c T Z) : w.cell? ⟨mb, 13, none⟩ = some (.pointer (some ⟨p, 0, none⟩)) := by
  obtain ⟨s, b, h1, _, _⟩ := h.has
  exact h1.2.1 13
/-- A choice of a made thing. -/
theorem Md.pick {w : World} {mb p : Nat} {L : List Int} {a : Option Addr} {c : Nat} {T : Tv} {Z : Nat} (h : Md w mb p L a c T Z) (m : Int) (h2 : 0 < m) (h3 : m ≤ 1000000000) : Calls Try.prog 10 #[.pointer (some ⟨p, 0, none⟩), .int .i64 m] w fun e w' => (∃ r, e = .returned (.int .i64 r) ∧ 0 ≤ r ∧ r < m) ∧ Md w' mb p L a c T Z ∧ Only (fun q => q = p) w w' := by
  obtain ⟨k, hk⟩ := h.pk
  refine (pick_any hk m h2 h3).mono ?_
  rintro e w' ⟨h4, ⟨k', h5⟩, h6⟩
  exact ⟨h4, h.next h5 h6, h6⟩
/-- The blocks that a made thing's calls turn. -/
abbrev MP (mb p : Nat) : Nat → Prop := fun q => q = mb ∨ q = p
theorem line_end {w w1 : World} {mb p : Nat} {L : List Int} {a : Option Addr} {c k : Nat} {T : Tv} {Z : Nat} {s b : ByteArray} (hk : Pk w1 p L a c k) (hn : p < mb) (ga : L = [] ∨ ∀ g o, a = some ⟨g, o, none⟩ → g < mb) (hh : Has w1 mb (T.cs s b p)) (ho : Only (MP mb p) w w1) (s' : ByteArray) (hs : s'.size ≤ Z) (hb : b.size ≤ Z) :
    Md (w1.setCell ⟨mb, 12, none⟩ (.string s')) mb p L a c T Z ∧ Only (MP mb p) w (w1.setCell ⟨mb, 12, none⟩ (.string s')) :=
  ⟨⟨⟨s', b, hh.txt s', hs, hb⟩, ⟨k, hk.set hn (Nat.le_refl _) ga _⟩, hn, ga⟩, ho.set (.inl rfl) _⟩
set_option maxRecDepth 100000 in
set_option maxHeartbeats 4000000 in
theorem line_any {w : World} {mb p : Nat} {L : List Int} {a : Option Addr} {c : Nat} {T : Tv} {Z : Nat} (h : Md w mb p L a c T Z) (hZ : Z ≤ 1000000000) (ind wd : ByteArray) (h1 : ind.size ≤ 2) (h2 : wd.size ≤ 120) :
    Calls Try.prog 9 #[.pointer (some ⟨mb, 0, none⟩), .string ind, .string wd] w fun e w' => e = .returned (.tuple #[]) ∧ Md w' mb p L a c T (Z + 500) ∧ Only (MP mb p) w w' := by
  obtain ⟨s, b, hh, hs, hb⟩ := h.has
  obtain ⟨k, hk⟩ := h.pk
  have hn := h.lt
  have ga := h.ga
  have hk2 : Hid (∀ v, Pk (w.setCell ⟨mb, 14, none⟩ v) p L a c k) := fun v => hk.set hn (Nat.le_refl _) ga v
  obtain ⟨i0, i1, i2⟩ := id hh
  simp only [Tv.cs] at i1
  have hh' : Hid (Has w mb (T.cs s b p)) := hh
  clear hh hk h
  go_enter Try.func9, Try.ntmps9
  go_wp2_with (go_at_call 10; (with_reducible refine (pick_any (hk2.out _) 5 (by decide) (by decide)).mono ?_); rintro e w1 ⟨⟨r, rfl, hr0, hr1⟩, ⟨k', hk'⟩, ho1⟩; have hx := (hh'.out.bare _).only ho1 (by show ¬ mb = p; omega); have ho : Only (MP mb p) w w1 := ((Only.refl _ w).set (.inl rfl) _).trans (ho1.mono fun q e => .inr e); have hb1 : (((b ++ ind) ++ wd) ++ ⟨#[10]⟩ : ByteArray).size ≤ Z + 500 := (by simp only [ByteArray.size_append]; have : (⟨#[10]⟩ : ByteArray).size = 1 := rfl; omega); generalize (((b ++ ind) ++ wd) ++ ⟨#[10]⟩) = b1 at *; obtain ⟨q0, q1, q2⟩ := id hx; simp only [Tv.cs] at q1; clear i0 i1 i2 hh' hk2 ho1)
  · go_end0
    exact ⟨rfl, line_end hk' hn ga hx ho _ (by simp only [ByteArray.size_append, bsz, List.size_toArray, List.length_cons, List.length_nil]; omega) hb1⟩
  · go_end0
    exact ⟨rfl, line_end hk' hn ga hx ho _ (by simp only [ByteArray.size_append, bsz, List.size_toArray, List.length_cons, List.length_nil]; omega) hb1⟩
  · rename_i e1 e2 e3 K3 hK3
    rw [e1, e2, e3]
    go_loopg [6] wd.size (fun gk s6 wr => ∃ (k : Nat) (s2 : ByteArray), k + gk = wd.size ∧ s6 = .int .i64 (k : Int) ∧ Hid (s2.size ≤ s.size + 2 * k) ∧ Hid (Has wr mb (T.cs s2 b1 p)) ∧ Hid (∃ k', Pk wr p L a c k') ∧ Hid (Only (MP mb p) w wr))
    case atStart => exact ⟨0, s, by omega, rfl, by show _ ≤ _; omega, hx, ⟨k', hk'⟩, ho⟩
    case round =>
      obtain ⟨k, s2, hk, rfl, hz, hx2, hp2, ho2⟩ := hrel
      obtain ⟨q0, q1, q2⟩ := id hx2.out
      simp only [Tv.cs] at q1
      have hz2 := hz.out
      by_cases hlt : k < wd.size
      · have t1 : (k : Int) < (wd.size : Int) := by omega
        have t0 : (0 : Int) ≤ (k : Int) := by omega
        have wk : IntKind.i64.wrap ((k : Int) + 1) = (k : Int) + 1 := wrap64 _ (by omega)
        have hsl := fun W => sl_one W wd k hlt
        have hy : (wd.extract k (k + 1)).size ≤ 1 := by simp; omega
        generalize wd.extract k (k + 1) = y at *
        have g1 : ¬ 9223372036854775807 < s2.size + y.size := by omega
        go_wp2_with fail
        refine wp_region_noPanic ?_
        refine wp_region_E (S := fun w' => w'.cell? ⟨mb, 12, none⟩ = some (.string s2)) (E := 13) (by kernel_rfl) ?_ (fun hHeld => ?_)
        · (try dsimp only)
          exact q1 12
        refine wpAnyE_take (i := 0) (oi := { dst := some 71, op := Op.move (Operand.tmp 0), type := 42, pos := "outright.go:65", after := #[], guard := none }) (v := ?_) rfl (by kernel_rfl) (by kernel_rfl) (by kernel_rfl) (by kernel_rfl) (fun _ _ _ h => h) (Or.inl ⟨by rfl, ?_⟩) (by assumption) ?_
        rotate_left
        · intro wz hSz; (try dsimp only at hSz); go_simp; all_goals (with_reducible rfl)
        (try simp only [Act.put, List.setIfInBounds_toArray, List.set_cons_zero, List.set_cons_succ])
        refine wpAnyE_take (i := 1) (oi := { dst := some 72, op := Op.move (Operand.tmp 0), type := 42, pos := "outright.go:65", after := #[], guard := none }) (v := ?_) rfl (by kernel_rfl) (by kernel_rfl) (by kernel_rfl) (by kernel_rfl) (fun _ _ _ h => h) (Or.inl ⟨by rfl, ?_⟩) (by assumption) ?_
        rotate_left
        · intro wz hSz; (try dsimp only at hSz); go_simp; all_goals (with_reducible rfl)
        (try simp only [Act.put, List.setIfInBounds_toArray, List.set_cons_zero, List.set_cons_succ])
        refine wpAnyE_take (i := 2) (oi := { dst := some 73, op := Op.nilCheck (Operand.tmp 72), type := 0, pos := "outright.go:65", after := #[{ on := 1, ground := Ground.data }], guard := none }) (v := ?_) rfl (by kernel_rfl) (by kernel_rfl) (by kernel_rfl) (by kernel_rfl) (fun _ _ _ h => h) (Or.inl ⟨by rfl, ?_⟩) (by assumption) ?_
        rotate_left
        · intro wz hSz; (try dsimp only at hSz); go_simp; all_goals (with_reducible rfl)
        (try simp only [Act.put, List.setIfInBounds_toArray, List.set_cons_zero, List.set_cons_succ])
        refine wpAnyE_take (i := 3) (oi := { dst := some 74, op := Op.fieldAddr 47 (Operand.tmp 73) 1, type := 0, pos := "outright.go:65", after := #[{ on := 2, ground := Ground.data }], guard := none }) (v := ?_) rfl (by kernel_rfl) (by kernel_rfl) (by kernel_rfl) (by kernel_rfl) (fun _ _ _ h => h) (Or.inl ⟨by rfl, ?_⟩) (by assumption) ?_
        rotate_left
        · intro wz hSz; (try dsimp only at hSz); go_simp; all_goals (with_reducible rfl)
        (try simp only [Act.put, List.setIfInBounds_toArray, List.set_cons_zero, List.set_cons_succ])
        refine wpAnyE_take (i := 4) (oi := { dst := some 75, op := Op.load 9 (Operand.tmp 74), type := 9, pos := "outright.go:65", after := #[{ on := 3, ground := Ground.data }], guard := none }) (v := ?_) rfl (by kernel_rfl) (by kernel_rfl) (by kernel_rfl) (by kernel_rfl) (fun _ _ _ h => h) (Or.inl ⟨by rfl, ?_⟩) (by assumption) ?_
        rotate_left
        · intro wz hSz; (try dsimp only at hSz); go_simp; all_goals (with_reducible rfl)
        (try simp only [Act.put, List.setIfInBounds_toArray, List.set_cons_zero, List.set_cons_succ])
        refine wpAnyE_take (i := 5) (oi := { dst := some 76, op := Op.move (Operand.tmp 2), type := 9, pos := "outright.go:65", after := #[], guard := none }) (v := ?_) rfl (by kernel_rfl) (by kernel_rfl) (by kernel_rfl) (by kernel_rfl) (fun _ _ _ h => h) (Or.inl ⟨by rfl, ?_⟩) (by assumption) ?_
        rotate_left
        · intro wz hSz; (try dsimp only at hSz); go_simp; all_goals (with_reducible rfl)
        (try simp only [Act.put, List.setIfInBounds_toArray, List.set_cons_zero, List.set_cons_succ])
        refine wpAnyE_take (i := 6) (oi := { dst := some 77, op := Op.move (Operand.tmp 6), type := 3, pos := "outright.go:65", after := #[], guard := none }) (v := ?_) rfl (by kernel_rfl) (by kernel_rfl) (by kernel_rfl) (by kernel_rfl) (fun _ _ _ h => h) (Or.inl ⟨by rfl, ?_⟩) (by assumption) ?_
        rotate_left
        · intro wz hSz; (try dsimp only at hSz); go_simp; all_goals (with_reducible rfl)
        (try simp only [Act.put, List.setIfInBounds_toArray, List.set_cons_zero, List.set_cons_succ])
        refine wpAnyE_take (i := 7) (oi := { dst := some 78, op := Op.move (Operand.tmp 6), type := 3, pos := "outright.go:65", after := #[], guard := none }) (v := ?_) rfl (by kernel_rfl) (by kernel_rfl) (by kernel_rfl) (by kernel_rfl) (fun _ _ _ h => h) (Or.inl ⟨by rfl, ?_⟩) (by assumption) ?_
        rotate_left
        · intro wz hSz; (try dsimp only at hSz); go_simp; all_goals (with_reducible rfl)
        (try simp only [Act.put, List.setIfInBounds_toArray, List.set_cons_zero, List.set_cons_succ])
        refine wpAnyE_take (i := 8) (oi := { dst := some 79, op := Op.binOp BinOp.add 3 (Operand.tmp 78) (Operand.const (Value.int IntKind.i64 1)) 3, type := 3, pos := "outright.go:65", after := #[{ on := 7, ground := Ground.data }], guard := none }) (v := ?_) rfl (by kernel_rfl) (by kernel_rfl) (by kernel_rfl) (by kernel_rfl) (fun _ _ _ h => h) (Or.inl ⟨by rfl, ?_⟩) (by assumption) ?_
        rotate_left
        · intro wz hSz; (try dsimp only at hSz); go_simp; all_goals (with_reducible rfl)
        (try simp only [Act.put, List.setIfInBounds_toArray, List.set_cons_zero, List.set_cons_succ])
        refine wpAnyE_take (i := 9) (oi := { dst := some 80, op := Op.slice 9 (Operand.tmp 76) (some (Operand.tmp 77)) (some (Operand.tmp 79)) none, type := 9, pos := "outright.go:65", after := #[{ on := 5, ground := Ground.data }, { on := 6, ground := Ground.data }, { on := 8, ground := Ground.data }], guard := none }) (v := ?_) rfl (by kernel_rfl) (by kernel_rfl) (by kernel_rfl) (by kernel_rfl) (fun _ _ _ h => h) (Or.inl ⟨by rfl, ?_⟩) (by assumption) ?_
        rotate_left
        · intro wz hSz; (try dsimp only at hSz); go_simp; all_goals (with_reducible rfl)
        (try simp only [Act.put, List.setIfInBounds_toArray, List.set_cons_zero, List.set_cons_succ])
        refine wpAnyE_take (i := 10) (oi := { dst := some 81, op := Op.binOp BinOp.add 9 (Operand.tmp 75) (Operand.tmp 80) 9, type := 9, pos := "outright.go:65", after := #[{ on := 4, ground := Ground.data }, { on := 9, ground := Ground.data }], guard := none }) (v := ?_) rfl (by kernel_rfl) (by kernel_rfl) (by kernel_rfl) (by kernel_rfl) (fun _ _ _ h => h) (Or.inl ⟨by rfl, ?_⟩) (by assumption) ?_
        rotate_left
        · intro wz hSz; (try dsimp only at hSz); go_simp; all_goals (with_reducible rfl)
        (try simp only [Act.put, List.setIfInBounds_toArray, List.set_cons_zero, List.set_cons_succ])
        refine wpAnyE_one (i := 11) (o := { dst := some 82, op := Op.nilCheck (Operand.tmp 71), type := 0, pos := "outright.go:65", after := #[{ on := 0, ground := Ground.data }, { on := 0, ground := Ground.phase }, { on := 1, ground := Ground.phase }, { on := 2, ground := Ground.phase }, { on := 3, ground := Ground.phase }, { on := 4, ground := Ground.phase }, { on := 5, ground := Ground.phase }, { on := 6, ground := Ground.phase }, { on := 7, ground := Ground.phase }, { on := 8, ground := Ground.phase }, { on := 9, ground := Ground.phase }, { on := 10, ground := Ground.phase }], guard := none }) (by kernel_rfl) rfl (by rfl) (fun K hK => ?_)
        go_simp
        refine hK.out _ _ hHeld (fun hHeld => ?_)
        clear hK K
        (try simp only [Act.put, List.setIfInBounds_toArray, List.set_cons_zero, List.set_cons_succ])
        refine wpAnyE_one (i := 12) (o := { dst := some 83, op := Op.fieldAddr 47 (Operand.tmp 82) 1, type := 0, pos := "outright.go:65", after := #[{ on := 11, ground := Ground.data }, { on := 0, ground := Ground.phase }, { on := 1, ground := Ground.phase }, { on := 2, ground := Ground.phase }, { on := 3, ground := Ground.phase }, { on := 4, ground := Ground.phase }, { on := 5, ground := Ground.phase }, { on := 6, ground := Ground.phase }, { on := 7, ground := Ground.phase }, { on := 8, ground := Ground.phase }, { on := 9, ground := Ground.phase }, { on := 10, ground := Ground.phase }], guard := none }) (by kernel_rfl) rfl (by rfl) (fun K hK => ?_)
        go_simp
        refine hK.out _ _ hHeld (fun hHeld => ?_)
        clear hK K
        (try simp only [Act.put, List.setIfInBounds_toArray, List.set_cons_zero, List.set_cons_succ])
        refine wpAnyE_last (o := { dst := none, op := Op.store 9 (Operand.tmp 83) (Operand.tmp 81), type := 0, pos := "outright.go:65", after := #[{ on := 12, ground := Ground.data }, { on := 10, ground := Ground.data }, { on := 0, ground := Ground.phase }, { on := 1, ground := Ground.phase }, { on := 2, ground := Ground.phase }, { on := 3, ground := Ground.phase }, { on := 4, ground := Ground.phase }, { on := 5, ground := Ground.phase }, { on := 6, ground := Ground.phase }, { on := 7, ground := Ground.phase }, { on := 8, ground := Ground.phase }, { on := 9, ground := Ground.phase }, { on := 10, ground := Ground.phase }], guard := none }) (by kernel_rfl) rfl (by kernel_rfl) (by rfl) (fun K hK => ?_)
        have xD : wr.drew.cell? ⟨mb, 12, none⟩ = some _ := q1 12
        have zD : wr.drew.frozen? ⟨mb, 12, none⟩ = false := q2 12
        go_simp
        refine hK _ _ ?_
        refine NoPanic.normal ?_
        have hx3 := (hx2.out.txt (s2 ++ y)).below ((Below.refl _ _).drew)
        have ho3 := (ho2.out.set (b := mb) (i := 12) (.inl rfl) (.string (s2 ++ y))).drew
        obtain ⟨k2, hk2⟩ := hp2.out
        have hp3 := (hk2.set (i := 12) hn (Nat.le_refl _) ga (.string (s2 ++ y))).below ((Below.refl _ _).drew)
        have hz3 : (s2 ++ y).size ≤ s2.size + 1 := by simp only [ByteArray.size_append]; omega
        clear xD zD hHeld hK K q0 q1 q2 hx2 hk2 hp2 ho2
        generalize (World.setCell wr ⟨mb, 12, none⟩ (.string (s2 ++ y))).drew = W at *
        generalize s2 ++ y = s3 at *
        obtain ⟨q0, q1, q2⟩ := id hx3
        simp only [Tv.cs] at q1
        go_wp2_with fail
        · go_roundg (gk - 1)
          case measure => go_light; omega
          case rel => exact ⟨k + 1, s3 ++ (⟨#[9]⟩ : ByteArray), by omega, by go_num, (by show _ ≤ _; simp only [ByteArray.size_append, bsz, List.size_toArray, List.length_cons, List.length_nil]; omega), hx3.txt (s3 ++ (⟨#[9]⟩ : ByteArray)), ⟨k2, hp3.set hn (Nat.le_refl _) ga _⟩, ho3.set (.inl rfl) _⟩
        · go_roundg (gk - 1)
          case measure => go_light; omega
          case rel => exact ⟨k + 1, s3, by omega, by go_num, (by show _ ≤ _; omega), hx3, ⟨k2, hp3⟩, ho3⟩
      · have t1 : ¬ (k : Int) < (wd.size : Int) := by omega
        obtain ⟨k2, hk2⟩ := hp2.out
        go_wp2_with fail
        go_end0
        exact ⟨rfl, line_end hk2 hn ga hx2.out ho2.out _ (by simp only [ByteArray.size_append, bsz, List.size_toArray, List.length_cons, List.length_nil]; omega) hb1⟩
  · go_end0
    exact ⟨rfl, line_end hk' hn ga hx ho _ (by simp only [ByteArray.size_append, bsz, List.size_toArray, List.length_cons, List.length_nil]; omega) hb1⟩
end Go.Proofs.Ytddphepgcihdbaa
