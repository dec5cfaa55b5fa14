import Derived.Test.YtjfieclmagbfbaaGreatDoorMaF
import Derived.Test.YtjfieclmagbfbaaGreatDoorGdB
import Derived.ChangeKeysEq
import Derived.Laws.StructEq
import Derived.KernelRfl
import Derived.Laws.Bits64
import Derived.Laws.Bits64b
import Derived.Laws.BitsAllLaws
import Derived.Maps.Own
import Derived.Maps.OwnOps
import Derived.Maps.RangeWalk
import Derived.DeepKeys4
set_option linter.unusedSimpArgs false
set_option linter.unusedVariables false
set_option maxRecDepth 100000
set_option maxHeartbeats 8000000
namespace Go.Proofs.YtjfieclmagbfbaaGreatDoor
open Go.RowKit
def interF : List Cf → Int → Int → Int × Bool
 | [], _, _ => (0, false)
 | c :: cs, a, b => if c.a = a ∧ c.b = b then (c.ab, true) else if c.a = b ∧ c.b = a then (c.ba, true) else interF cs a b
theorem c3 : Tryz.prog.cellsOf 3 = 1 := by kernel_rfl
def Cf.ok (x : Cf) : Prop := (Lit.int .i64 x.a).wf = true ∧ (Lit.int .i64 x.b).wf = true ∧ (Lit.int .i64 x.ab).wf = true ∧ (Lit.int .i64 x.ba).wf = true
theorem mxI (a b : Int) : (if a < b then b else a) = max a b := by rw [Int.max_def]; split <;> split <;> omega
def hasN (M : Nat) (g : Int) : Bool := decide (0 ≤ g) && (decide (g < 64) && M.testBit g.toNat)
theorem bit1 (M k : Nat) (h : M < 18446744073709551616) : (bits .and .u64 ((M : Int) / 2 ^ k) 1 == 1) = M.testBit k := by
 have e : ((M : Int) / 2 ^ k) = ((M / 2 ^ k : Nat) : Int) := by simp
 have t : bits .and .u64 ((M / 2 ^ k : Nat) : Int) 1 = ((M / 2 ^ k &&& 1 : Nat) : Int) := bits_and_u64_nat (M / 2 ^ k) 1 (Nat.lt_of_le_of_lt (Nat.div_le_self _ _) h) (by decide)
 rw [e, t, Nat.and_one_is_mod, Nat.testBit_eq_decide_div_mod_eq]
 rcases Nat.mod_two_eq_zero_or_one (M / 2 ^ k) with h | h <;> rw [h] <;> rfl
theorem bit64 (M : Nat) (h : M < 18446744073709551616) : M.testBit 64 = false := Nat.testBit_lt_two_pow h
theorem hasS_eq (M : Nat) (g : Int) (hM : M < 18446744073709551616) (hg : -9223372036854775808 ≤ g ∧ g ≤ 9223372036854775807) : (bits .and .u64 ((M : Int) / 2 ^ min (IntKind.u64.wrap g).toNat 64) 1 == 1) = hasN M g := by
 rw [bit1 M _ hM, IntKind.wrap_u64]
 unfold hasN
 by_cases h0 : 0 ≤ g
 ·by_cases h1 : g < 64
  ·have e : min (g % 18446744073709551616).toNat 64 = g.toNat := by omega
   rw [e]; simp [h0, h1]
  ·have e : min (g % 18446744073709551616).toNat 64 = 64 := by omega
   rw [e, bit64 M hM]; simp [h1]
 ·have e : min (g % 18446744073709551616).toNat 64 = 64 := by omega
  rw [e, bit64 M hM]; simp [h0]
theorem allOf_eq (n : Nat) : IntKind.u64.wrap (IntKind.u64.wrap (2 ^ min n 64) - 1) = ((2 ^ min n 64 - 1 : Nat) : Int) := by
 rw [IntKind.wrap_u64, IntKind.wrap_u64]
 have hp : 1 ≤ 2 ^ min n 64 := Nat.one_le_two_pow
 by_cases h : n < 64
 ·have e : min n 64 = n := by omega
  rw [e] at hp ⊢; have hl : 2 ^ n < 18446744073709551616 := Nat.lt_of_lt_of_le (Nat.pow_lt_pow_right (by decide) h) (by decide); have e2 : ((2 : Int) ^ n) = ((2 ^ n : Nat) : Int) := by simp
  rw [e2]; omega
 ·have e : min n 64 = 64 := by omega
  rw [e]; decide
theorem allOf_lt (n : Nat) : 2 ^ min n 64 - 1 < 18446744073709551616 := by
 have h : 2 ^ min n 64 ≤ 2 ^ 64 := Nat.pow_le_pow_right (by decide) (Nat.min_le_right _ _)
 have e : 2 ^ 64 = 18446744073709551616 := by decide
 have hp : 1 ≤ 2 ^ min n 64 := Nat.one_le_two_pow
 omega
theorem hasN_and (M n : Nat) (g : Int) : hasN (M &&& (2 ^ min n 64 - 1)) g = (hasN M g && decide (g < (n : Int))) := by
 unfold hasN
 rw [Nat.testBit_and, Nat.testBit_two_pow_sub_one]
 by_cases h0 : 0 ≤ g
 ·by_cases h1 : g < 64
  ·have e : decide (g.toNat < min n 64) = decide (g < (n : Int)) := by
    apply Bool.eq_iff_iff.2; simp only [decide_eq_true_eq]; omega
   rw [e]; simp [h0, h1]
  ·simp [h1]
 ·simp [h0]
def hit (n M : Nat) (c : Cf) : Bool := (hasN M c.a && decide (c.a < (n : Int))) && (hasN M c.b && decide (c.b < (n : Int)))
def clashF (n M : Nat) : List Cf → Int × Int × Bool
 | [] => (-1, -1, false)
 | c :: cs => if hit n M c = true then (c.a, c.b, true) else clashF n M cs
theorem clashF_step (n M : Nat) (C : List Cf) (k : Nat) (h : k < C.length) : clashF n M (C.drop k) = if hit n M C[k] = true then (C[k].a, C[k].b, true) else clashF n M (C.drop (k + 1)) := by
 rw [List.drop_eq_getElem_cons h]; rfl
theorem clashF_end (n M : Nat) (C : List Cf) (k : Nat) (h : C.length ≤ k) : clashF n M (C.drop k) = (-1, -1, false) := by
 rw [List.drop_eq_nil_of_le h]; rfl
theorem hasS_any (M : Nat) (g : Int) (w : World) (hM : M < 18446744073709551616) (hg : -9223372036854775808 ≤ g ∧ g ≤ 9223372036854775807) :
  Calls Tryz.prog 65 #[.int .u64 (M : Int), .int .i64 g] w fun e w' => e = .returned (.bool (hasN M g)) ∧ w' = w := by
 have e := hasS_eq M g hM hg
 go_enter Tryz.func65, Tryz.ntmps65
 go_wp2
 go_ret
 exact ⟨rfl, rfl⟩
theorem allOf_any (n : Nat) (a : Option Addr) (c : Nat) (w : World) (hn : n ≤ 2932031007317) :
  Calls Tryz.prog 62 #[.slice a n c] w fun e w' => e = .returned (.int .u64 ((2 ^ min n 64 - 1 : Nat) : Int)) ∧ w' = w := by
 have e := allOf_eq n
 go_enter Tryz.func62, Tryz.ntmps62
 go_wp2
 go_ret
 exact ⟨rfl, rfl⟩
theorem hasN_andNot (F T : Nat) (g : Int) (hT : T < 18446744073709551616) : hasN (F &&& (18446744073709551615 - T)) g = (hasN F g && !hasN T g) := by
 unfold hasN
 by_cases h0 : 0 ≤ g
 ·by_cases h1 : g < 64
  ·have e : (18446744073709551615 - T).testBit g.toNat = !T.testBit g.toNat := by
    have := Nat.testBit_two_pow_sub_succ (x := T) (n := 64) (by simpa using hT) g.toNat; have e2 : 2 ^ 64 - (T + 1) = 18446744073709551615 - T := by omega
    rw [e2] at this; rw [this]; have h2 : g.toNat < 64 := by omega
    simp [h2]
   rw [Nat.testBit_and, e]; simp [h0, h1]
  ·simp [h1]
 ·simp [h0]
def loses (F T : Nat) (k : Nat) : Bool := hasN F (k : Int) && !hasN T (k : Int)
def holdF (F T : Nat) : List Gp → Nat → Int → Int
 | [], _, n => n
 | g :: gs, k, n => holdF F T gs (k + 1) (if loses F T k = true then (if n < g.min - 1 then g.min - 1 else n) else n)
theorem holdF_step (F T : Nat) (G : List Gp) (k : Nat) (n : Int) (h : k < G.length) : holdF F T (G.drop k) k n = holdF F T (G.drop (k + 1)) (k + 1) (if loses F T k = true then (if n < G[k].min - 1 then G[k].min - 1 else n) else n) := by
 rw [List.drop_eq_getElem_cons h]; rfl
theorem holdF_end (F T : Nat) (G : List Gp) (k : Nat) (n : Int) (h : G.length ≤ k) : holdF F T (G.drop k) k n = n := by
 rw [List.drop_eq_nil_of_le h]; rfl
theorem grid_min {G : List Gp} {C : List Cf} (h : gridB G C = true) (k : Nat) (hk : k < G.length) : 1 ≤ G[k].min ∧ G[k].min ≤ 3600 ∧ 0 ≤ G[k].amber ∧ G[k].amber ≤ 60 ∧ 0 ≤ G[k].lead ∧ G[k].lead ≤ 60 := by
 simp [gridB] at h
 have := h.2.1 G[k] (List.getElem_mem hk)
 simp [gpB, timeB, amberB] at this
 omega
def holdV (G : List Gp) (C : List Cf) (F T : Nat) : Int × Int := if gridB G C = true then (holdF F T G 0 0, 0) else (0, 70)
theorem bel_only {B : Nat} {S : Nat → Prop} {a w w' : World} (h : Below B a w) (ho : Only S w w') (hB : B ≤ a.heap.size) (hS : ∀ k, k < B → ¬ S k) : Below B a w' :=
 ⟨ho.os.trans h.os, ho.tape.trans h.tape, ho.output.trans h.output, Nat.le_trans h.size ho.size, fun k hk => (ho.block k (by have := h.size; omega) (hS k hk)).trans (h.block k hk)⟩
theorem bel3o {w : World} {o1 o2 o3 : Obj} : Below w.heap.size w (((w.alloc o1).alloc o2).alloc o3) := (belA).alloc (by simp; omega) _
abbrev marksG : List Value := [.string ⟨#[]⟩, .int .i64 0, .int .i64 77, .int .i64 0, .int .i64 0, .string ⟨#[]⟩, .int .i64 0, .int .i64 77, .int .i64 0, .int .i64 0]
abbrev marksC : List Value := [.int .i64 0, .int .i64 0, .int .i64 77, .int .i64 0, .int .i64 0, .int .i64 0, .int .i64 77, .int .i64 0]
structure RS2 (w : World) (N : Nat) (bx : Array Value) (v1 v2 : Value) (G : List Gp) (C : List Cf) (g1 d1 g2 d2 : Nat) (X : World) : Prop where
 hb : Below w.heap.size w X
 B0 : Has X w.heap.size bx
 R1 : Has X (w.heap.size + 1) #[.slice none 0 0, .slice none 0 0]
 R2 : Has X (w.heap.size + 2) #[.slice none 0 0, .slice none 0 0, .slice none 0 0, .slice none 0 0]
 Q : Has X N #[v1, v2]
 nG : X.ownsRow (w.heap.size + 3) 73 5 (.slice (some ⟨g1, 0, none⟩) (G.length + 2) d1) (G.length + 2) (cellsF Gp.cs G ++ marksG)
 nC : X.ownsRow (w.heap.size + 3) 75 4 (.slice (some ⟨g2, 0, none⟩) (C.length + 2) d2) (C.length + 2) (cellsF Cf.cs C ++ marksC)
 z : w.heap.size + 3 ≤ N ∧ N < X.heap.size
 lg : w.heap.size + 3 ≤ g1 ∧ g1 < X.heap.size ∧ g1 ≠ N
 lc : w.heap.size + 3 ≤ g2 ∧ g2 < X.heap.size ∧ g2 ≠ N
theorem wf64 {n : Int} (h : (Lit.int .i64 n).wf = true) : -9223372036854775808 ≤ n ∧ n ≤ 9223372036854775807 := by
 simp [Lit.wf, IntKind.min, IntKind.max, IntKind.bits, IntKind.signed] at h
 omega
theorem clash_any (n : Nat) (M : Nat) (C : List Cf) (va : Option Addr) (cap0 : Nat) (vc : Value) (w : World) (hM : M < 18446744073709551616) (hn : n ≤ 2932031007317) (h : Fl 4 Cf.cs w vc C) (hl : C.length ≤ 4398046511000) (ok : ∀ (i : Nat) (h : i < C.length), C[i].ok) :
  Calls Tryz.prog 33 #[.agg #[.slice va n cap0, vc], .int .u64 (M : Int)] w fun e w' => e = .returned (.tuple #[.int .i64 (clashF n M C).1, .int .i64 (clashF n M C).2.1, .bool (clashF n M C).2.2]) ∧ Below w.heap.size w w' := by
 obtain ⟨vb, cap, rfl, hk⟩ := h.any
 clear h
 generalize hA : clashF n M C = A
 have B0 : Has (w.alloc (.cells #[.slice va n cap0, .slice vb C.length cap] 25)) w.heap.size #[.slice va n cap0, .slice vb C.length cap] := Has.new _ _ _ rfl
 have hb0 : Below w.heap.size w (w.alloc (.cells #[.slice va n cap0, .slice vb C.length cap] 25)) := belN1
 have hMl : M &&& (2 ^ min n 64 - 1) < 18446744073709551616 := Nat.lt_of_le_of_lt Nat.and_le_left hM
 have hMa : bits .and .u64 (M : Int) ((2 ^ min n 64 - 1 : Nat) : Int) = ((M &&& (2 ^ min n 64 - 1) : Nat) : Int) := bits_and_u64_nat _ _ hM (allOf_lt n)
 have hN := fun g => hasN_and M n g
 have hAl := fun (W : World) => allOf_any n va cap0 W hn
 generalize 2 ^ min n 64 - 1 = Al at *
 generalize M &&& Al = M' at *
 go_enter Tryz.func33, Tryz.ntmps33
 go_wp2_with (go_at_call 62; (with_reducible refine Calls.mono (hAl _) ?_); rintro e w2 ⟨rfl, rfl⟩)
 clear hAl
 generalize (w.alloc (.cells #[.slice va n cap0, .slice vb C.length cap] 25)) = W0 at *
 go_loopw [17] (fun t wr => ∃ k : Nat, k ≤ C.length ∧ t = .int .i64 (k : Int) ∧ Hid (clashF n M (C.drop k) = A) ∧ Hid (Has wr w.heap.size #[.slice va n cap0, .slice vb C.length cap]) ∧ Hid (Below w.heap.size w wr)) (fun t _ => C.length - (intOf t).toNat)
 case atStart => exact ⟨0, by omega, rfl, hA, B0, hb0⟩
 case round =>
  clear B0 hb0; obtain ⟨k, hkl, rfl, hs, B, hb⟩ := hrel; obtain ⟨_, b1, _⟩ := id B.out
  by_cases hlt : k < C.length
  ·obtain ⟨g, o, rfl, hg, P⟩ := hk.resolve_left (by intro e; rw [e] at hlt; simp at hlt)
   have p0 := (hb.out.cell (p := ⟨g, _, none⟩) hg).trans (P k hlt 0 _ rfl); have p1 := (hb.out.cell (p := ⟨g, _, none⟩) hg).trans (P k hlt 1 _ rfl); have p2 := (hb.out.cell (p := ⟨g, _, none⟩) hg).trans (P k hlt 2 _ rfl); have p3 := (hb.out.cell (p := ⟨g, _, none⟩) hg).trans (P k hlt 3 _ rfl); simp only [Nat.add_zero] at p0; have hstep := clashF_step n M C k hlt; rw [hs.out] at hstep; obtain ⟨r1, r2, _, _⟩ := ok k hlt; have ra := wf64 r1; have rb := wf64 r2; unfold hit at hstep; generalize C[k].a = xa at *; generalize C[k].b = xb at *; generalize C[k].ab = xab at *; generalize C[k].ba = xba at *; have t1 : (k : Int) < (C.length : Int) := by omega
   have t0 : (0 : Int) ≤ (k : Int) := by omega
   have t2 : k + 1 ≤ C.length := hlt; clear P hk hs ok r1 r2; have hbN : Below w.heap.size w (wr.alloc (.cells #[.int .i64 xa, .int .i64 xb, .int .i64 xab, .int .i64 xba] 75)) := hb.out.alloc hb.out.size _; have BN := B.out.alloc (.cells #[.int .i64 xa, .int .i64 xb, .int .i64 xab, .int .i64 xba] 75); have hHa := fun (W : World) => hasS_any M' xa W hMl ra
   have hHb := fun (W : World) => hasS_any M' xb W hMl rb
   rw [← hN xa, ← hN xb] at hstep
   cases ea : hasN M' xa with
   | true =>
     rw [ea] at hHa
     cases eb : hasN M' xb with
     | true =>
       rw [eb] at hHb; have hA' : A = (xa, xb, true) := by rw [hstep, ea, eb]; rfl
       subst hA'; clear hstep
       go_wp2_with (first | (go_at_call 65; (with_reducible refine Calls.mono (hHa _) ?_); rintro e w2 ⟨rfl, rfl⟩) | (go_at_call 65; (with_reducible refine Calls.mono (hHb _) ?_); rintro e w2 ⟨rfl, rfl⟩))
       go_quiet (fail)
       go_wp2; exact bodyPost_ret (v := .tuple #[.int .i64 xa, .int .i64 xb, .bool true]) (by simp [results, Tryz.results33, go_sem]) rfl ⟨rfl, bel_drewN hbN⟩
     | false =>
       rw [eb] at hHb; have hs' : Hid (clashF n M (C.drop (k + 1)) = A) := by show _ = _; rw [hstep, ea, eb]; simp
       clear hstep
       go_wp2_with (first | (go_at_call 65; (with_reducible refine Calls.mono (hHa _) ?_); rintro e w2 ⟨rfl, rfl⟩) | (go_at_call 65; (with_reducible refine Calls.mono (hHb _) ?_); rintro e w2 ⟨rfl, rfl⟩))
       go_roundw
       case rel => exact ⟨k + 1, by omega, by go_num, hs', BN, hbN⟩
       case measure => simp [intOf]; omega
   | false =>
     rw [ea] at hHa; clear hHb; have hs' : Hid (clashF n M (C.drop (k + 1)) = A) := by show _ = _; rw [hstep, ea]; simp
     clear hstep
     go_wp2_with (first | (go_at_call 65; (with_reducible refine Calls.mono (hHa _) ?_); rintro e w2 ⟨rfl, rfl⟩) | (go_at_call 65; (with_reducible refine Calls.mono (hHb _) ?_); rintro e w2 ⟨rfl, rfl⟩))
     go_roundw
     case rel => exact ⟨k + 1, by omega, by go_num, hs', BN, hbN⟩
     case measure => simp [intOf]; omega
  ·have t1 : ¬ (k : Int) < (C.length : Int) := by omega
   have hA' : A = (-1, -1, false) := by rw [← hs.out]; exact clashF_end n M C k (by omega)
   subst hA'; clear hs; go_wp2; exact bodyPost_ret (v := .tuple #[.int .i64 (-1), .int .i64 (-1), .bool false]) (by simp [results, Tryz.results33, go_sem]) rfl ⟨rfl, hb.out⟩
def waitV (x : Gp) (C : List Cf) (o g : Int) : Int := if (interF C o g).2 = true then (if x.amber > (interF C o g).1 then x.amber else (interF C o g).1) else 0
theorem inter_in {n : Nat} : ∀ (C : List Cf) (p : Option Cf) (a b : Int), rowsB n p C = true → 0 ≤ (interF C a b).1 ∧ (interF C a b).1 ≤ 3600
 | [], _, _, _, _ => by simp [interF]
 | c :: cs, p, a, b, h => by
   simp [rowsB, cfB, timeB] at h; have ih := inter_in cs (some c) a b h.2; unfold interF; split
   ·simp; omega
   ·split
    ·simp; omega
    ·exact ih
theorem wait_in {G : List Gp} {C : List Cf} (h : gridB G C = true) (k : Nat) (hk : k < G.length) (o g : Int) : 0 ≤ waitV G[k] C o g ∧ waitV G[k] C o g ≤ 3600 := by
 have h1 := grid_min h k hk
 have h2 : rowsB G.length none C = true := by simp [gridB] at h; exact h.2.2
 have h3 := inter_in C none o g h2
 unfold waitV
 split
 ·split <;> omega
 ·omega
def wF (C : List Cf) (F T : Nat) (all : Bool) (g : Int) : List Gp → Nat → Int → Int
 | [], _, w => w
 | x :: xs, o, w => wF C F T all g xs (o + 1) (if (all || loses F T o) = true then (if w < waitV x C (o : Int) g then waitV x C (o : Int) g else w) else w)
def atV (G : List Gp) (C : List Cf) (F T : Nat) (all : Bool) (x : Gp) (k : Nat) : Int := if loses T F k = true then 1 + wF C F T all (k : Int) G 0 0 + x.lead else if loses F T k = true then 1 + x.amber else 0
def mvF (G : List Gp) (C : List Cf) (F T : Nat) (all : Bool) : List Gp → Nat → Int → Int
 | [], _, n => n
 | x :: xs, k, n => mvF G C F T all xs (k + 1) (if n < atV G C F T all x k then atV G C F T all x k else n)
theorem mvF_step (G : List Gp) (C : List Cf) (F T : Nat) (all : Bool) (k : Nat) (n : Int) (h : k < G.length) : mvF G C F T all (G.drop k) k n = mvF G C F T all (G.drop (k + 1)) (k + 1) (if n < atV G C F T all G[k] k then atV G C F T all G[k] k else n) := by
 rw [List.drop_eq_getElem_cons h]; rfl
theorem mvF_end (G : List Gp) (C : List Cf) (F T : Nat) (all : Bool) (k : Nat) (n : Int) (h : G.length ≤ k) : mvF G C F T all (G.drop k) k n = n := by
 rw [List.drop_eq_nil_of_le h]; rfl
def spanV (G : List Gp) (C : List Cf) (F T : Nat) (all : Bool) : Int × Int := if gridB G C = true then (if ((clashF G.length F C).2.2 || (clashF G.length T C).2.2) = true then (0, 60) else (mvF G C F T all G 0 0, 0)) else (0, 70)
def thF (F T : Nat) (ws : Nat → Int) : List Gp → Nat → Int → Int
 | [], _, n => n
 | x :: xs, k, n => thF F T ws xs (k + 1) (if loses F T k = true then (if n < 1 + x.amber then 1 + x.amber else n) else if loses T F k = true then (if n < 1 + ws k + x.lead then 1 + ws k + x.lead else n) else n)
theorem thF_step (F T : Nat) (ws : Nat → Int) (G : List Gp) (k : Nat) (n : Int) (h : k < G.length) : thF F T ws (G.drop k) k n = thF F T ws (G.drop (k + 1)) (k + 1) (if loses F T k = true then (if n < 1 + G[k].amber then 1 + G[k].amber else n) else if loses T F k = true then (if n < 1 + ws k + G[k].lead then 1 + ws k + G[k].lead else n) else n) := by
 rw [List.drop_eq_getElem_cons h]; rfl
theorem thF_end (F T : Nat) (ws : Nat → Int) (G : List Gp) (k : Nat) (n : Int) (h : G.length ≤ k) : thF F T ws (G.drop k) k n = n := by
 rw [List.drop_eq_nil_of_le h]; rfl
theorem thF_mvF {G : List Gp} {C : List Cf} {F T : Nat} {all : Bool} {ws : Nat → Int} (gr : gridB G C = true) (hw : ∀ k, k < G.length → ws k = wF C F T all (k : Int) G 0 0) (h0 : ∀ k, k < G.length → 0 ≤ ws k) :
  ∀ (m k : Nat) (n : Int), k + m = G.length → 0 ≤ n → thF F T ws (G.drop k) k n = mvF G C F T all (G.drop k) k n
 | 0, k, n, hk, hn => by rw [thF_end _ _ _ _ _ _ (by omega), mvF_end _ _ _ _ _ _ _ (by omega)]
 | m + 1, k, n, hk, hn => by
   have hlt : k < G.length := by omega
   have mn := grid_min gr k hlt; have w0 := h0 k hlt; have e : (if loses F T k = true then (if n < 1 + G[k].amber then 1 + G[k].amber else n) else if loses T F k = true then (if n < 1 + ws k + G[k].lead then 1 + ws k + G[k].lead else n) else n) = (if n < atV G C F T all G[k] k then atV G C F T all G[k] k else n) := by
    unfold atV; rw [← hw k hlt]
    cases e1 : loses F T k with
    | true =>
      have e2 : loses T F k = false := by simp [loses] at e1 ⊢; simp [e1]
      simp [e2]
    | false =>
      cases e2 : loses T F k with
      | true => simp
      | false =>
        have : ¬ n < 0 := by omega
        simp [this]
   rw [thF_step _ _ _ _ _ _ hlt, mvF_step _ _ _ _ _ _ _ hlt, e]; have hat : 0 ≤ atV G C F T all G[k] k := by
    unfold atV; rw [← hw k hlt]; split
    ·omega
    ·split <;> omega
   refine thF_mvF gr hw h0 m (k + 1) _ (by omega) ?_; split
   ·exact hat
   ·exact hn
theorem through_any (G : List Gp) (vg vm : Value) (F T : Nat) (ws : Nat → Int) (aw : Option Addr) (cw : Nat) (w : World) (hF : F < 18446744073709551616) (hT : T < 18446744073709551616) (h1 : Fl 5 Gp.cs w vg G) (lG : G.length ≤ 2932031007317) (mins : ∀ (k : Nat) (hk : k < G.length), 0 ≤ G[k].amber ∧ G[k].amber ≤ 60 ∧ 0 ≤ G[k].lead ∧ G[k].lead ≤ 60)
  (hws : G = [] ∨ ∃ gw, aw = some ⟨gw, 0, none⟩ ∧ gw < w.heap.size ∧ ∀ i, i < G.length → w.cell? ⟨gw, i, none⟩ = some (.int .i64 (ws i)) ∧ 0 ≤ ws i ∧ ws i ≤ 3600) :
  Calls Tryz.prog 71 #[.agg #[vg, vm], .int .u64 (F : Int), .int .u64 (T : Int), .slice aw G.length cw] w fun e w' => e = .returned (.int .i64 (thF F T ws G 0 0)) ∧ Below w.heap.size w w' := by
 obtain ⟨va, cg, rfl, kG⟩ := h1.any
 clear h1
 have hM1 : bits .andNot .u64 (F : Int) (T : Int) = ((F &&& (18446744073709551615 - T) : Nat) : Int) := u64_andNot_nat F T hF hT
 have hM2 : bits .andNot .u64 (T : Int) (F : Int) = ((T &&& (18446744073709551615 - F) : Nat) : Int) := u64_andNot_nat T F hT hF
 have hMl1 : F &&& (18446744073709551615 - T) < 18446744073709551616 := Nat.lt_of_le_of_lt Nat.and_le_left hF
 have hMl2 : T &&& (18446744073709551615 - F) < 18446744073709551616 := Nat.lt_of_le_of_lt Nat.and_le_left hT
 have hN1 := fun g => hasN_andNot F T g hT
 have hN2 := fun g => hasN_andNot T F g hF
 generalize F &&& (18446744073709551615 - T) = D1 at *
 generalize T &&& (18446744073709551615 - F) = D2 at *
 generalize hA : thF F T ws G 0 0 = A
 have hb0 : Below w.heap.size w (w.alloc (.cells #[.slice va G.length cg, vm] 79)) := belN1
 have B0 : Has (w.alloc (.cells #[.slice va G.length cg, vm] 79)) w.heap.size #[.slice va G.length cg, vm] := Has.new _ _ _ rfl
 go_enter Tryz.func71, Tryz.ntmps71
 go_wp2
 generalize (w.alloc (.cells #[.slice va G.length cg, vm] 79)) = W0 at *
 go_loopw [9, 15] (fun tn tk wr => ∃ (k : Nat) (n : Int), k ≤ G.length ∧ tk = .int .i64 (k : Int) ∧ tn = .int .i64 n ∧ Hid (thF F T ws (G.drop k) k n = A) ∧ Hid (Has wr w.heap.size #[.slice va G.length cg, vm]) ∧ Hid (Below w.heap.size w wr)) (fun _ tk _ => G.length - (intOf tk).toNat)
 case atStart => exact ⟨0, 0, by omega, rfl, rfl, hA, B0, hb0⟩
 case round =>
  clear B0 hb0 hA; obtain ⟨k, n, hkl, rfl, rfl, hs, B, hb⟩ := hrel; obtain ⟨_, b1, _⟩ := id B.out
  by_cases hlt : k < G.length
  ·obtain ⟨g, o, rfl, hg, P⟩ := kG.resolve_left (by intro e; rw [e] at hlt; simp at hlt)
   obtain ⟨gw, rfl, hgw, hcw⟩ := hws.resolve_left (by intro e; rw [e] at hlt; simp at hlt); have p0 := (hb.out.cell (p := ⟨g, _, none⟩) hg).trans (P k hlt 0 _ rfl); have p1 := (hb.out.cell (p := ⟨g, _, none⟩) hg).trans (P k hlt 1 _ rfl); have p2 := (hb.out.cell (p := ⟨g, _, none⟩) hg).trans (P k hlt 2 _ rfl); have p3 := (hb.out.cell (p := ⟨g, _, none⟩) hg).trans (P k hlt 3 _ rfl); have p4 := (hb.out.cell (p := ⟨g, _, none⟩) hg).trans (P k hlt 4 _ rfl); simp only [Nat.add_zero] at p0; obtain ⟨hc, hr⟩ := hcw k hlt; have hs' := hs.out; rw [thF_step F T ws G k n hlt] at hs'; have mn := mins k hlt; have t1 : (k : Int) < (G.length : Int) := by omega
   have t0 : (0 : Int) ≤ (k : Int) := by omega
   have t2 : k + 1 ≤ G.length := hlt; have hH1 := fun (W : World) => hasS_any D1 (k : Int) W hMl1 (by omega)
   have hH2 := fun (W : World) => hasS_any D2 (k : Int) W hMl2 (by omega)
   have eh1 : hasN D1 (k : Int) = loses F T k := hN1 (k : Int); have eh2 : hasN D2 (k : Int) = loses T F k := hN2 (k : Int); rw [eh1] at hH1; rw [eh2] at hH2; clear P kG hs mins hcw hws eh1 eh2 hN1 hN2; generalize ws k = u at *; generalize G[k].name = x0 at *; generalize G[k].sort = x1 at *; generalize G[k].min = x2 at *; generalize G[k].amber = x3 at *; generalize G[k].lead = x4 at *; have wa : IntKind.i64.wrap (1 + x3) = 1 + x3 := wrap64 _ (by omega); have wb : IntKind.i64.wrap (1 + u) = 1 + u := wrap64 _ (by omega); have wc : IntKind.i64.wrap (1 + u + x4) = 1 + u + x4 := wrap64 _ (by omega); clear mn hr; have hbN : Below w.heap.size w (wr.alloc (.cells #[.string x0, .int .i64 x1, .int .i64 x2, .int .i64 x3, .int .i64 x4] 73)) := hb.out.alloc hb.out.size _; have BN := B.out.alloc (.cells #[.string x0, .int .i64 x1, .int .i64 x2, .int .i64 x3, .int .i64 x4] 73); have cN : (wr.alloc (.cells #[.string x0, .int .i64 x1, .int .i64 x2, .int .i64 x3, .int .i64 x4] 73)).cell? ⟨gw, k, none⟩ = some (.int .i64 u) := (hbN.cell (p := ⟨gw, k, none⟩) hgw).trans hc; have cM : wr.cell? ⟨gw, k, none⟩ = some (.int .i64 u) := (hb.out.cell (p := ⟨gw, k, none⟩) hgw).trans hc
   cases e1 : loses F T k with
   | true =>
     rw [e1] at hH1; clear hH2; have hs2 : Hid (thF F T ws (G.drop (k + 1)) (k + 1) (if n < 1 + x3 then 1 + x3 else n) = A) := by show _ = _; rw [← hs', e1]; simp
     rw [mxI] at hs2; clear hs'
     go_wp2_with (first | (go_at_call 65; (with_reducible refine Calls.mono (hH1 _) ?_); rintro e w2 ⟨rfl, rfl⟩) | (go_at_call 65; (with_reducible refine Calls.mono (hH2 _) ?_); rintro e w2 ⟨rfl, rfl⟩))
     go_roundw
     case rel => exact ⟨k + 1, _, by omega, by go_num, rfl, hs2, BN, hbN⟩
     case measure => simp [intOf]; omega
   | false =>
     rw [e1] at hH1
     cases e2 : loses T F k with
     | true =>
       rw [e2] at hH2; have hs2 : Hid (thF F T ws (G.drop (k + 1)) (k + 1) (if n < 1 + u + x4 then 1 + u + x4 else n) = A) := by show _ = _; rw [← hs', e1, e2]; simp
       rw [mxI] at hs2; clear hs'
       go_wp2_with (first | (go_at_call 65; (with_reducible refine Calls.mono (hH1 _) ?_); rintro e w2 ⟨rfl, rfl⟩) | (go_at_call 65; (with_reducible refine Calls.mono (hH2 _) ?_); rintro e w2 ⟨rfl, rfl⟩))
       go_quiet (fail)
       go_wp2; go_roundw
       case rel => exact ⟨k + 1, _, by omega, by go_num, rfl, hs2, BN.drewN nq, bel_drewN hbN⟩
       case measure => simp [intOf]; omega
     | false =>
       rw [e2] at hH2; have hs2 : Hid (thF F T ws (G.drop (k + 1)) (k + 1) (n) = A) := by show _ = _; rw [← hs', e1, e2]; simp
       clear hs'
       go_wp2_with (first | (go_at_call 65; (with_reducible refine Calls.mono (hH1 _) ?_); rintro e w2 ⟨rfl, rfl⟩) | (go_at_call 65; (with_reducible refine Calls.mono (hH2 _) ?_); rintro e w2 ⟨rfl, rfl⟩))
       go_roundw
       case rel => exact ⟨k + 1, _, by omega, by go_num, rfl, hs2, BN, hbN⟩
       case measure => simp [intOf]; omega
  ·have t1 : ¬ (k : Int) < (G.length : Int) := by omega
   have hA' : n = A := by rw [← hs.out]; exact (thF_end F T ws G k n (by omega)).symm
   subst hA'; clear hs kG mins hws; go_wp2; go_ret; exact ⟨rfl, hb.out⟩
open Go.RowKit Go.Maps Go.WideMaps
theorem laidOutM : laidOutB Tryz.prog = true := by kernel_rfl
theorem row55 : (132 : TypeId) < Tryz.prog.types.size := of_decide_eq_true (by kernel_rfl)
theorem cells55 : Tryz.prog.cellsOf 132 = 2 := by kernel_rfl
theorem wide55 : (match Tryz.prog.underlying 132 with | some (.array _ _) | some (.struct _) => true | _ => false) = true := by rw [Tryz.underlying132]
theorem lawP : Keyed Tryz.prog 132 := Keyed.of_law (deep_law_laid laidOutM (m := 2) (by omega) row55 (by kernel_rfl) wide55)
theorem key55 : Tryz.prog.keyType 132 = true := by kernel_rfl
theorem formed55 {c0 c1 : Value} : (Value.agg #[c0, c1]).formed Tryz.prog 132 = true := by simp [Value.formed, Tryz.underlying132, cells55]
def pk (a b : Int) : Lit := .string (keyBytes [.int .i64 a, .int .i64 b])
theorem pk_some (a b : Int) (ha : (Lit.int .i64 a).wf = true) (hb : (Lit.int .i64 b).wf = true) : keyOf Tryz.prog 132 (.agg #[.int .i64 a, .int .i64 b]) = some (pk a b) := by
 obtain ⟨d, hd⟩ : ∃ d, Tryz.prog.types.size = d + 1 := ⟨Tryz.prog.types.size - 1, by have h : (132 : Nat) < Tryz.prog.types.size := row55; omega⟩
 have e : Tryz.prog.keyLits (d + 1 + 1) 132 [.int .i64 a, .int .i64 b] = some [.int .i64 a, .int .i64 b] := by
  simp [Program.keyLits, Tryz.underlying132, Tryz.underlying3, cells55, c3, ha, hb, List.range, List.range.loop]
 unfold keyOf
 rw [Tryz.underlying132]
 simp only [key55, formed55, Bool.and_self, if_true]
 rw [hd]
 have e2 : (Value.agg #[Value.int IntKind.i64 a, Value.int IntKind.i64 b]).cells.toList = [.int .i64 a, .int .i64 b] := by simp [Value.cells]
 rw [e2, e]
 rfl
theorem pk_inj {a b a' b' : Int} (ha : (Lit.int .i64 a).wf = true) (hb : (Lit.int .i64 b).wf = true) (ha' : (Lit.int .i64 a').wf = true) (hb' : (Lit.int .i64 b').wf = true) (h : pk a b = pk a' b') : a = a' ∧ b = b' := by
 have h1 := pk_some a b ha hb
 have h2 := pk_some a' b' ha' hb'
 rw [← h] at h2
 have := lawP.inj h1 h2
 simpa using this
end Go.Proofs.YtjfieclmagbfbaaGreatDoor
