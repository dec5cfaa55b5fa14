import Derived.Test.YtddphepgcihdbaaTnD
import Derived.Test.YtddphepgcihdbaaTdI
namespace Go.Proofs.Ytddphepgcihdbaa
open Go.RowKit Go.Shelf
set_option linter.unusedVariables false
set_option linter.unusedSimpArgs false

attribute [local go_sem] Oper.semAt_some
/-- How many minutes lie ahead. -/
def ahN (m : Int) : Nat := (min (m + 20160) 210379679 - m).toNat
/-- The next switch. -/
def nxP (t : Tt) (m : Int) : Int × Int := match (wlk (slF t) (slF t m) (up (m + 1) (ahN m))).head? with
  | some p => p
  | none => (-1, slF t m)
def nxM (t : Tt) (m : Int) : Int := if erF t m 210379679 = 0 then (nxP t m).1 else 0
def nxS (t : Tt) (m : Int) : Int := if erF t m 210379679 = 0 then (nxP t m).2 else 0
theorem wlk_none (f : Int → Int) (now : Int) : ∀ (L : List Int), (∀ x ∈ L, f x = now) → wlk f now L = []
  | [], _ => rfl
  | x :: L, h => by
    rw [wlk, if_pos (h x (List.mem_cons_self ..))]
    exact wlk_none f now L (fun y hy => h y (List.mem_cons_of_mem _ hy))
theorem wlk_first (f : Int → Int) (now : Int) : ∀ (L : List Int) (x : Int) (r : List Int), (∀ x ∈ L, f x = now) → f x ≠ now → (wlk f now (L ++ x :: r)).head? = some (x, f x)
  | [], x, r, _, hx => by rw [List.nil_append, wlk, if_neg hx]; rfl
  | y :: L, x, r, h, hx => by
    rw [List.cons_append, wlk, if_pos (h y (List.mem_cons_self ..))]
    exact wlk_first f now L x r (fun z hz => h z (List.mem_cons_of_mem _ hz)) hx
theorem nx_none {t : Tt} {m : Int} (he : t.err = 0) (m0 : 0 ≤ m) (m1 : m ≤ 210379679) (h : ∀ x ∈ chL t m (min (m + 20160) 210379679 + 1), slF t x = slF t m) : nxP t m = (-1, slF t m) := by
  have e : min (m + 20160) 210379679 + 1 = m + 1 + (ahN m : Int) := by unfold ahN; omega
  rw [e] at h
  unfold nxP
  rw [← wlk_ch he m0 (ahN m) (by omega), wlk_none _ _ _ h]
  rfl
theorem nx_some {t : Tt} {m : Int} (he : t.err = 0) (m0 : 0 ≤ m) (m1 : m ≤ 210379679) {pr r : List Int} {x : Int} (h : chL t m (min (m + 20160) 210379679 + 1) = pr ++ x :: r) (h1 : ∀ z ∈ pr, slF t z = slF t m) (h2 : slF t x ≠ slF t m) : nxP t m = (x, slF t x) := by
  have e : min (m + 20160) 210379679 + 1 = m + 1 + (ahN m : Int) := by unfold ahN; omega
  rw [e] at h
  unfold nxP
  rw [← wlk_ch he m0 (ahN m) (by omega), h, wlk_first _ _ _ _ _ h1 h2]
/-- Between two rounds of Next. -/
structure NxS (w : World) (nb : Nat) (s : Int) (tc : Array Value) (A : World) : Prop where
  ht : Has A w.heap.size tc
  h4 : Has A (w.heap.size + 1) #[.int .i64 0]
  h5 : Has A (w.heap.size + 1 + 1) #[.int .i64 0]
  h6 : Has A (w.heap.size + 1 + 1 + 1) #[.int .i64 0]
  hn : Has A nb #[.int .i64 s]
  hb : Below w.heap.size w A
theorem NxS.below {w : World} {nb : Nat} {s : Int} {tc : Array Value} {A B : World} (h : NxS w nb s tc A) {Z : Nat} (hb : Below Z A B) (hZ : w.heap.size + 4 ≤ Z) (hn : nb < Z) : NxS w nb s tc B :=
  ⟨h.ht.blk hb.size (hb.block _ (by omega)), h.h4.blk hb.size (hb.block _ (by omega)), h.h5.blk hb.size (hb.block _ (by omega)), h.h6.blk hb.size (hb.block _ (by omega)), h.hn.blk hb.size (hb.block _ hn), h.hb.trans (hb.mono (by omega))⟩

/-- Where Next has found a switch. -/
structure NxX (w : World) (x s : Int) (A : World) : Prop where
  h4 : Has A (w.heap.size + 1) #[.int .i64 x]
  h5 : Has A (w.heap.size + 1 + 1) #[.int .i64 s]
  h6 : Has A (w.heap.size + 1 + 1 + 1) #[.int .i64 0]
  hb : Below w.heap.size w A
theorem NxX.below {w : World} {x s : Int} {A B : World} (h : NxX w x s A) {Z : Nat} (hb : Below Z A B) (hZ : w.heap.size + 4 ≤ Z) : NxX w x s B :=
  ⟨h.h4.blk hb.size (hb.block _ (by omega)), h.h5.blk hb.size (hb.block _ (by omega)), h.h6.blk hb.size (hb.block _ (by omega)), h.hb.trans (hb.mono (by omega))⟩
theorem NxS.found {w : World} {nb : Nat} {s : Int} {tc : Array Value} {A : World} (h : NxS w nb s tc A) (x s2 : Int) : NxX w x s2 (((A.setCell ⟨w.heap.size + 1, 0, none⟩ (.int .i64 x)).setCell ⟨w.heap.size + 1 + 1, 0, none⟩ (.int .i64 s2)).setCell ⟨w.heap.size + 1 + 1 + 1, 0, none⟩ (.int .i64 0)) :=
  ⟨((h.h4.set 0 (by simp) _).far (by omega) _).far (by omega) _, (((h.h5.far (by omega) _).set 0 (by simp) _).far (by omega) _), (((h.h6.far (by omega) _).far (by omega) _).set 0 (by simp) _),
   ((h.hb.setCell (p := ⟨w.heap.size + 1, 0, none⟩) (by simp) _).setCell (p := ⟨w.heap.size + 1 + 1, 0, none⟩) (by simp; omega) _).setCell (p := ⟨w.heap.size + 1 + 1 + 1, 0, none⟩) (by simp; omega) _⟩
set_option maxRecDepth 100000 in
set_option maxHeartbeats 8000000 in
theorem outer5 {n nb : Nat} {Q : Exit → Act → World → Prop} {x0 x1 x3 x7 x9 x10 x11 x12 x13 x14 x15 x16 x17 x18 x19 x20 x21 x22 x23 x24 x25 x27 x28 x29 x30 x31 x32 x33 x34 x35 x36 : Value} {lb : Array Value} {L : List Int} {R : Nat → Prop} {z1 z2 z3 z4 z5 z6 z7 z8 z9 z10 z11 z12 z13 : String} {s0 : Int} (t : Tt) (aD aS aX aH : Option Addr) (cD cS cX cH : Nat) (w : World) (hR : TR w t (.slice aD t.D.length cD) (.slice aS t.S.length cS) (.slice aX t.X.length cX) (.slice aH t.H.length cH)) (w4 : World)
    (hseq : ∀ V, Below w4.heap.size w4 V → SeqAt (n - 1) 43 lb (fun m => #[.int .i64 m]) L R V) (hRk : ∀ k, R k → k < w4.heap.size) (hR2 : ¬ R (w.heap.size + 1) ∧ ¬ R (w.heap.size + 1 + 1) ∧ ¬ R (w.heap.size + 1 + 1 + 1)) (hnb : nb < w4.heap.size) (hz4 : w.heap.size + 4 ≤ w4.heap.size) (he : t.err = 0) (hL : ∀ x ∈ L, 0 ≤ x ∧ x ≤ 210379679)
    (h0 : NxS w nb s0 #[.string t.nm, .slice aD t.D.length cD, .int .i64 t.w0, .int .i64 t.w1, .int .i64 t.w2, .int .i64 t.w3, .int .i64 t.w4, .int .i64 t.w5, .int .i64 t.w6, .slice aS t.S.length cS, .slice aX t.X.length cX, .slice aH t.H.length cH] w4)
    (hdone : ∀ A, (∀ x ∈ L, slF t x = s0) → NxS w nb s0 #[.string t.nm, .slice aD t.D.length cD, .int .i64 t.w0, .int .i64 t.w1, .int .i64 t.w2, .int .i64 t.w3, .int .i64 t.w4, .int .i64 t.w5, .int .i64 t.w6, .slice aS t.S.length cS, .slice aX t.X.length cX, .slice aH t.H.length cH] A → A.heap[w4.heap.size]? = some (.deferred (some [])) → Q .normal { tmps := #[x0, x1, .pointer (some ⟨w.heap.size, 0, none⟩), x3, .pointer (some ⟨w.heap.size + 1, 0, none⟩), .pointer (some ⟨w.heap.size + 1 + 1, 0, none⟩), .pointer (some ⟨w.heap.size + 1 + 1 + 1, 0, none⟩), x7, .pointer (some ⟨nb, 0, none⟩), x9, x10, x11, x12, x13, x14, x15, x16, x17, x18, x19, x20, x21, x22, x23, x24, x25, .func (.func 43) #[] lb, x27, x28, x29, x30, x31, x32, x33, x34, x35, x36], defers := [{ target := .collected w4.heap.size, args := #[] }] } A)
    (hstop : ∀ A pr x, pr ++ [x] <+: L → (∀ z ∈ pr, slF t z = s0) → slF t x ≠ s0 → NxX w x (slF t x) A → A.heap[w4.heap.size]? = some (.deferred (some [])) → Q .ret { tmps := #[x0, x1, .pointer (some ⟨w.heap.size, 0, none⟩), x3, .pointer (some ⟨w.heap.size + 1, 0, none⟩), .pointer (some ⟨w.heap.size + 1 + 1, 0, none⟩), .pointer (some ⟨w.heap.size + 1 + 1 + 1, 0, none⟩), x7, .pointer (some ⟨nb, 0, none⟩), x9, x10, x11, x12, x13, x14, x15, x16, x17, x18, x19, x20, x21, x22, x23, x24, x25, .func (.func 43) #[] lb, x27, x28, x29, x30, x31, x32, x33, x34, x35, x36], defers := [{ target := .collected w4.heap.size, args := #[] }] } A) :
    (Code.rangeFunc (Operand.tmp 26) #[27] (Code.region 6 #[{ dst := some 9, op := Op.assign (Operand.tmp 27), type := 3, pos := z1, after := #[], guard := none }] false) (Code.block 1 ((Code.region 7 #[{ dst := some 28, op := Op.load 29 (Operand.tmp 2), type := 29, pos := z2, after := #[], guard := none }, { dst := some 29, op := Op.move (Operand.tmp 9), type := 3, pos := z3, after := #[], guard := none }, { dst := some 30, op := Op.call { callee := Callee.value (Operand.func 22), args := #[Operand.tmp 28, Operand.tmp 29], argTypes := #[29, 3] }, type := 3, pos := z4, after := #[{ on := 0, ground := Ground.data }, { on := 1, ground := Ground.data }], guard := none }, { dst := some 10, op := Op.assign (Operand.tmp 30), type := 3, pos := z5, after := #[{ on := 2, ground := Ground.data }, { on := 2, ground := Ground.chain }, { on := 0, ground := Ground.phase }, { on := 1, ground := Ground.phase }, { on := 2, ground := Ground.phase }], guard := none }] false).seq ((Code.region 8 #[{ dst := some 31, op := Op.move (Operand.tmp 10), type := 3, pos := z6, after := #[], guard := none }, { dst := some 32, op := Op.load 3 (Operand.tmp 8), type := 3, pos := z7, after := #[], guard := none }, { dst := some 33, op := Op.binOp BinOp.neq 3 (Operand.tmp 31) (Operand.tmp 32) 3, type := 4, pos := z8, after := #[{ on := 0, ground := Ground.data }, { on := 1, ground := Ground.data }], guard := none }] false).seq (Code.cond (Operand.tmp 33) ((Code.region 9 #[{ dst := some 34, op := Op.move (Operand.tmp 9), type := 3, pos := z9, after := #[], guard := none }, { dst := some 35, op := Op.move (Operand.tmp 10), type := 3, pos := z10, after := #[{ on := 2, ground := Ground.gcOnly Departure.lateStores }], guard := none }, { dst := none, op := Op.store 3 (Operand.tmp 4) (Operand.tmp 34), type := 0, pos := z11, after := #[{ on := 0, ground := Ground.data }, { on := 0, ground := Ground.phase }, { on := 1, ground := Ground.textOnly Departure.lateStores }], guard := none }, { dst := none, op := Op.store 3 (Operand.tmp 5) (Operand.tmp 35), type := 0, pos := z12, after := #[{ on := 1, ground := Ground.data }, { on := 2, ground := Ground.chain }, { on := 0, ground := Ground.phase }, { on := 1, ground := Ground.phase }, { on := 2, ground := Ground.phase }], guard := none }, { dst := none, op := Op.store 36 (Operand.tmp 6) (Operand.const (Value.int IntKind.i64 0)), type := 0, pos := z13, after := #[{ on := 3, ground := Ground.chain }, { on := 0, ground := Ground.phase }, { on := 1, ground := Ground.phase }, { on := 2, ground := Ground.phase }, { on := 3, ground := Ground.phase }], guard := none }] false).seq Code.ret) Code.skip))))).wpIn Fence.wide n Try.prog Q { tmps := #[x0, x1, .pointer (some ⟨w.heap.size, 0, none⟩), x3, .pointer (some ⟨w.heap.size + 1, 0, none⟩), .pointer (some ⟨w.heap.size + 1 + 1, 0, none⟩), .pointer (some ⟨w.heap.size + 1 + 1 + 1, 0, none⟩), x7, .pointer (some ⟨nb, 0, none⟩), x9, x10, x11, x12, x13, x14, x15, x16, x17, x18, x19, x20, x21, x22, x23, x24, x25, .func (.func 43) #[] lb, x27, x28, x29, x30, x31, x32, x33, x34, x35, x36], defers := [] } w4 := by
  have hdone' : Hid _ := hdone
  have hstop' : Hid _ := hstop
  have c12 := fun (x : Int) (x0 : 0 ≤ x) (x1 : x ≤ 210379679) W (hb : Below w.heap.size w W) => callsIn_wide (n := n - 1 - 1 - 1) |>.2 (slotAt_any x x0 x1 t aD aS aX aH cD cS cX cH W (hR.below hb) he)
  have c12' : Hid _ := c12
  have h0' : Hid _ := h0
  clear hdone hstop c12 hR h0
  refine range_out (n := n) (gf := 43) (enc := fun m : Int => #[.int .i64 m]) (L := L) (R := R) rfl (enters_of Try.func43 (by kernel_rfl) rfl) (fun _ => rfl) hseq hRk
    (fun pre A => Hid (∀ x ∈ pre, slF t x = s0) ∧ Hid (NxS w nb s0 #[.string t.nm, .slice aD t.D.length cD, .int .i64 t.w0, .int .i64 t.w1, .int .i64 t.w2, .int .i64 t.w3, .int .i64 t.w4, .int .i64 t.w5, .int .i64 t.w6, .slice aS t.S.length cS, .slice aX t.X.length cX, .slice aH t.H.length cH] A)) (fun c pre A => c = .ret ∧ ∃ pr x, pre = pr ++ [x] ∧ (∀ z ∈ pr, slF t z = s0) ∧ slF t x ≠ s0 ∧ NxX w x (slF t x) A) (fun x a' A => a' = { tmps := #[x0, x1, .pointer (some ⟨w.heap.size, 0, none⟩), x3, .pointer (some ⟨w.heap.size + 1, 0, none⟩), .pointer (some ⟨w.heap.size + 1 + 1, 0, none⟩), .pointer (some ⟨w.heap.size + 1 + 1 + 1, 0, none⟩), x7, .pointer (some ⟨nb, 0, none⟩), .int .i64 x, x10, x11, x12, x13, x14, x15, x16, x17, x18, x19, x20, x21, x22, x23, x24, x25, .func (.func 43) #[] lb, .int .i64 x, x28, x29, x30, x31, x32, x33, x34, x35, x36], defers := [] })
    (fun pre A B h hb => ⟨h.1, h.2.out.below hb (by omega) (by omega)⟩) ?hIx (fun _ _ _ _ h _ => h) ⟨fun _ h => (by cases h), h0'.out⟩ ?assign ?body ?done ?stop
  case hIx =>
    rintro c pre A B ⟨hc, pr, x, h1, h2, h3, h4⟩ hb
    exact ⟨hc, pr, x, h1, h2, h3, h4.below hb (by omega)⟩
  case assign =>
    intro l pre m A K hi hz hK
    gi_wp2
    exact hK _ _ (Below.refl _ _) rfl
  case body =>
    rintro pre x a' A ⟨hi1, hi2⟩ rfl hp hz ⟨r₀, hr₀⟩
    have hx := hL x (by obtain ⟨r, hr⟩ := hp; rw [← hr]; simp)
    have k12 := c12'.out x hx.1 hx.2 A hi2.out.hb
    obtain ⟨_, q0, _⟩ := id hi2.out.ht
    by_cases hne : slF t x = s0
    · have hall : Hid (∀ z ∈ pre ++ [x], slF t z = s0) := fun z hzz => by
        rcases List.mem_append.1 hzz with h | h
        · exact hi1.out z h
        · rw [List.mem_singleton.1 h]; exact hne
      have ht : (slF t x == s0) = true := by rw [hne]; simp
      generalize slF t x = sx at *
      gi_wp2_with (refine ⟨trivial, fun h => (by cases h), ?_⟩; gi_at_call 22; refine (CallsIn.inRound _ k12).mono ?_; rintro e w5 ⟨rfl, hb5⟩; have hS5 := hi2.out.below hb5 (by omega) (by have := hi2.out.hn.1; omega); obtain ⟨_, q1, _⟩ := id hS5.hn)
      exact ⟨Only.of_below hb5, hall, hS5⟩
    · have hi1' : Hid _ := hi1
      have ht : (slF t x == s0) = false := beq_eq_false_iff_ne.2 hne
      have hne' : Hid (slF t x ≠ s0) := hne
      generalize hsx : slF t x = sx at *
      have t4 : Tn w4.heap.size R (w.heap.size + 1) := ⟨by omega, hR2.1⟩
      have t5 : Tn w4.heap.size R (w.heap.size + 1 + 1) := ⟨by omega, hR2.2.1⟩
      have t6 : Tn w4.heap.size R (w.heap.size + 1 + 1 + 1) := ⟨by omega, hR2.2.2⟩
      gi_wp2_with (refine ⟨trivial, fun h => (by cases h), ?_⟩; gi_at_call 22; refine (CallsIn.inRound _ k12).mono ?_; rintro e w5 ⟨rfl, hb5⟩; have hS5 := hi2.out.below hb5 (by omega) (by have := hi2.out.hn.1; omega); obtain ⟨_, q1, _⟩ := id hS5.hn; obtain ⟨_, r4, f4⟩ := id hS5.h4; obtain ⟨_, r5, f5⟩ := id hS5.h5; obtain ⟨_, r6, f6⟩ := id hS5.h6)
      exact ⟨(((Only.of_below hb5).set t4 _).set t5 _).set t6 _, rfl, pre, x, rfl, hi1'.out, by rw [hsx]; exact hne'.out, by rw [hsx]; exact hS5.found x sx⟩
  case done =>
    rintro A ⟨h1, h2⟩ hD hz
    exact hdone'.out A h1.out h2.out hD
  case stop =>
    rintro c pre A hp ⟨rfl, pr, x, rfl, h2, h3, h4⟩ hD hz
    gi_wp2
    exact hstop'.out A pr x hp h2 h3 h4 hD
end Go.Proofs.Ytddphepgcihdbaa
