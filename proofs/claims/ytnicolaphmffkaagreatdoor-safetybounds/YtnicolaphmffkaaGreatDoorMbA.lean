import Derived.Test.YtnicolaphmffkaaGreatDoorMaF
import Derived.Test.YtnicolaphmffkaaGreatDoorGdB
import Derived.ChangeKeysEq
import Derived.Laws.StructEq
import Derived.KernelRfl
import Derived.Laws.Bits64
import Derived.Laws.Bits64b
import Derived.Test.YtnicolaphmffkaaGreatDoorRoS
import Derived.Laws.BitsAllLaws
namespace Go.Proofs.YtnicolaphmffkaaGreatDoor
open Go.RowKit
set_option linter.unusedVariables false

/-- The intergreen by the first row that names both. -/
def interF : List Cf → Int → Int → Int × Bool
 | [], _, _ => (0, false)
 | c :: cs, a, b => if c.a = a ∧ c.b = b then (c.ab, true) else if c.a = b ∧ c.b = a then (c.ba, true) else interF cs a b
theorem interF_step (C : List Cf) (a b : Int) (k : Nat) (h : k < C.length) : interF (C.drop k) a b = if C[k].a = a ∧ C[k].b = b then (C[k].ab, true) else if C[k].a = b ∧ C[k].b = a then (C[k].ba, true) else interF (C.drop (k + 1)) a b := by
 rw [List.drop_eq_getElem_cons h]; rfl
theorem interF_end (C : List Cf) (a b : Int) (k : Nat) (h : C.length ≤ k) : interF (C.drop k) a b = (0, false) := by
 rw [List.drop_eq_nil_of_le h]; rfl

theorem c3 : Tryz.prog.cellsOf 3 = 1 := by kernel_rfl
open Go.RowKit
set_option linter.unusedVariables false

def Cf.ok (x : Cf) : Prop := (Lit.int .i64 x.a).wf = true ∧ (Lit.int .i64 x.b).wf = true ∧ (Lit.int .i64 x.ab).wf = true ∧ (Lit.int .i64 x.ba).wf = true
theorem mxI (a b : Int) : (if a < b then b else a) = max a b := by rw [Int.max_def]; split <;> split <;> omega
/-- Is a number in a mask? -/
def hasN (M : Nat) (g : Int) : Bool := decide (0 ≤ g) && (decide (g < 64) && M.testBit g.toNat)
theorem bit1 (M k : Nat) (h : M < 18446744073709551616) : (bits .and .u64 ((M : Int) / 2 ^ k) 1 == 1) = M.testBit k := by
 have e : ((M : Int) / 2 ^ k) = ((M / 2 ^ k : Nat) : Int) := by simp
 have t : bits .and .u64 ((M / 2 ^ k : Nat) : Int) 1 = ((M / 2 ^ k &&& 1 : Nat) : Int) := bits_and_u64_nat (M / 2 ^ k) 1 (Nat.lt_of_le_of_lt (Nat.div_le_self _ _) h) (by decide)
 rw [e, t, Nat.and_one_is_mod, Nat.testBit_eq_decide_div_mod_eq]
 rcases Nat.mod_two_eq_zero_or_one (M / 2 ^ k) with h | h <;> rw [h] <;> rfl
theorem bit64 (M : Nat) (h : M < 18446744073709551616) : M.testBit 64 = false := Nat.testBit_lt_two_pow h
theorem hasS_eq (M : Nat) (g : Int) (hM : M < 18446744073709551616) (hg : -9223372036854775808 ≤ g ∧ g ≤ 9223372036854775807) : (bits .and .u64 ((M : Int) / 2 ^ min (IntKind.u64.wrap g).toNat 64) 1 == 1) = hasN M g := by
 rw [bit1 M _ hM, IntKind.wrap_u64]
 unfold hasN
 by_cases h0 : 0 ≤ g
 ·by_cases h1 : g < 64
  ·have e : min (g % 18446744073709551616).toNat 64 = g.toNat := by omega
   rw [e]; simp [h0, h1]
  ·have e : min (g % 18446744073709551616).toNat 64 = 64 := by omega
   rw [e, bit64 M hM]; simp [h1]
 ·have e : min (g % 18446744073709551616).toNat 64 = 64 := by omega
  rw [e, bit64 M hM]; simp [h0]
theorem allOf_eq (n : Nat) : IntKind.u64.wrap (IntKind.u64.wrap (2 ^ min n 64) - 1) = ((2 ^ min n 64 - 1 : Nat) : Int) := by
 rw [IntKind.wrap_u64, IntKind.wrap_u64]
 have hp : 1 ≤ 2 ^ min n 64 := Nat.one_le_two_pow
 by_cases h : n < 64
 ·have e : min n 64 = n := by omega
  rw [e] at hp ⊢
  have hl : 2 ^ n < 18446744073709551616 := Nat.lt_of_lt_of_le (Nat.pow_lt_pow_right (by decide) h) (by decide)
  have e2 : ((2 : Int) ^ n) = ((2 ^ n : Nat) : Int) := by simp
  rw [e2]; omega
 ·have e : min n 64 = 64 := by omega
  rw [e]; decide
theorem allOf_lt (n : Nat) : 2 ^ min n 64 - 1 < 18446744073709551616 := by
 have h : 2 ^ min n 64 ≤ 2 ^ 64 := Nat.pow_le_pow_right (by decide) (Nat.min_le_right _ _)
 have e : 2 ^ 64 = 18446744073709551616 := by decide
 have hp : 1 ≤ 2 ^ min n 64 := Nat.one_le_two_pow
 omega
theorem hasN_and (M n : Nat) (g : Int) : hasN (M &&& (2 ^ min n 64 - 1)) g = (hasN M g && decide (g < (n : Int))) := by
 unfold hasN
 rw [Nat.testBit_and, Nat.testBit_two_pow_sub_one]
 by_cases h0 : 0 ≤ g
 ·by_cases h1 : g < 64
  ·have e : decide (g.toNat < min n 64) = decide (g < (n : Int)) := by
    apply Bool.eq_iff_iff.2; simp only [decide_eq_true_eq]; omega
   rw [e]; simp [h0, h1]
  ·simp [h1]
 ·simp [h0]
/-- Is a row's conflict in the mask? -/
def hit (n M : Nat) (c : Cf) : Bool := (hasN M c.a && decide (c.a < (n : Int))) && (hasN M c.b && decide (c.b < (n : Int)))
def clashF (n M : Nat) : List Cf → Int × Int × Bool
 | [] => (-1, -1, false)
 | c :: cs => if hit n M c = true then (c.a, c.b, true) else clashF n M cs
theorem clashF_step (n M : Nat) (C : List Cf) (k : Nat) (h : k < C.length) : clashF n M (C.drop k) = if hit n M C[k] = true then (C[k].a, C[k].b, true) else clashF n M (C.drop (k + 1)) := by
 rw [List.drop_eq_getElem_cons h]; rfl
theorem clashF_end (n M : Nat) (C : List Cf) (k : Nat) (h : C.length ≤ k) : clashF n M (C.drop k) = (-1, -1, false) := by
 rw [List.drop_eq_nil_of_le h]; rfl
set_option maxRecDepth 100000 in
theorem hasS_any (M : Nat) (g : Int) (w : World) (hM : M < 18446744073709551616) (hg : -9223372036854775808 ≤ g ∧ g ≤ 9223372036854775807) :
  Calls Tryz.prog 108 #[.int .u64 (M : Int), .int .i64 g] w fun e w' => e = .returned (.bool (hasN M g)) ∧ w' = w := by
 have e := hasS_eq M g hM hg
 go_enter Tryz.func108, Tryz.ntmps108
 go_wp2
 go_ret
 exact ⟨rfl, rfl⟩
set_option maxRecDepth 100000 in
theorem hasR_any (M : Nat) (g : Int) (w : World) (hM : M < 18446744073709551616) (hg : -9223372036854775808 ≤ g ∧ g ≤ 9223372036854775807) :
  Calls Tryz.prog 110 #[.int .u64 (M : Int), .int .i64 g] w fun e w' => e = .returned (.bool (hasN M g)) ∧ w' = w := by
 by_cases h0 : 0 ≤ g
 ·by_cases h1 : g < 64
  ·have e := bit1 M g.toNat hM
   have e2 : hasN M g = M.testBit g.toNat := by unfold hasN; simp [h0, h1]
   go_enter Tryz.func110, Tryz.ntmps110
   go_wp2
   go_ret
   exact ⟨ret_bool e2.symm, rfl⟩
  ·have e2 : hasN M g = false := by unfold hasN; simp [h1]
   go_enter Tryz.func110, Tryz.ntmps110
   go_wp2
   go_ret
   exact ⟨rfl, rfl⟩
 ·have e2 : hasN M g = false := by unfold hasN; simp [h0]
  go_enter Tryz.func110, Tryz.ntmps110
  go_wp2
  go_ret
  exact ⟨rfl, rfl⟩
set_option maxRecDepth 100000 in
theorem allOf_any (n : Nat) (a : Option Addr) (c : Nat) (w : World) (hn : n ≤ 2932031007317) :
  Calls Tryz.prog 91 #[.slice a n c] w fun e w' => e = .returned (.int .u64 ((2 ^ min n 64 - 1 : Nat) : Int)) ∧ w' = w := by
 have e := allOf_eq n
 go_enter Tryz.func91, Tryz.ntmps91
 go_wp2
 go_ret
 exact ⟨rfl, rfl⟩
open Go.RowKit
set_option linter.unusedVariables false

theorem wf64 {n : Int} (h : (Lit.int .i64 n).wf = true) : -9223372036854775808 ≤ n ∧ n ≤ 9223372036854775807 := by
 simp [Lit.wf, IntKind.min, IntKind.max, IntKind.bits, IntKind.signed] at h
 omega

set_option maxRecDepth 100000 in
set_option maxHeartbeats 4000000 in
theorem clash_any (n : Nat) (M : Nat) (C : List Cf) (va : Option Addr) (cap0 : Nat) (vc : Value) (w : World) (hM : M < 18446744073709551616) (hn : n ≤ 2932031007317) (h : Fl 4 Cf.cs w vc C) (hl : C.length ≤ 4398046511000) (ok : ∀ (i : Nat) (h : i < C.length), C[i].ok) :
  Calls Tryz.prog 107 #[.agg #[.slice va n cap0, vc], .int .u64 (M : Int)] w fun e w' => e = .returned (.tuple #[.int .i64 (clashF n M C).1, .int .i64 (clashF n M C).2.1, .bool (clashF n M C).2.2]) ∧ Below w.heap.size w w' := by
 obtain ⟨vb, cap, rfl, hk⟩ := h.any
 clear h
 generalize hA : clashF n M C = A
 have B0 : Has (w.alloc (.cells #[.slice va n cap0, .slice vb C.length cap] 25)) w.heap.size #[.slice va n cap0, .slice vb C.length cap] := Has.new _ _ _ rfl
 have hb0 : Below w.heap.size w (w.alloc (.cells #[.slice va n cap0, .slice vb C.length cap] 25)) := belN1
 have hMl : M &&& (2 ^ min n 64 - 1) < 18446744073709551616 := Nat.lt_of_le_of_lt Nat.and_le_left hM
 have hMa : bits .and .u64 (M : Int) ((2 ^ min n 64 - 1 : Nat) : Int) = ((M &&& (2 ^ min n 64 - 1) : Nat) : Int) := bits_and_u64_nat _ _ hM (allOf_lt n)
 have hN := fun g => hasN_and M n g
 have hAl := fun (W : World) => allOf_any n va cap0 W hn
 generalize 2 ^ min n 64 - 1 = Al at *
 generalize M &&& Al = M' at *
 go_enter Tryz.func107, Tryz.ntmps107
 go_wp2_with (go_at_call 91; (with_reducible refine Calls.mono (hAl _) ?_); rintro e w2 ⟨rfl, rfl⟩)
 clear hAl
 generalize (w.alloc (.cells #[.slice va n cap0, .slice vb C.length cap] 25)) = W0 at *
 go_loopw [17] (fun t wr => ∃ k : Nat, k ≤ C.length ∧ t = .int .i64 (k : Int) ∧ Hid (clashF n M (C.drop k) = A) ∧ Hid (Has wr w.heap.size #[.slice va n cap0, .slice vb C.length cap]) ∧ Hid (Below w.heap.size w wr)) (fun t _ => C.length - (intOf t).toNat)
 case atStart => exact ⟨0, by omega, rfl, hA, B0, hb0⟩
 case round =>
  clear B0 hb0
  obtain ⟨k, hkl, rfl, hs, B, hb⟩ := hrel
  obtain ⟨_, b1, _⟩ := id B.out
  by_cases hlt : k < C.length
  ·obtain ⟨g, o, rfl, hg, P⟩ := hk.resolve_left (by intro e; rw [e] at hlt; simp at hlt)
   have p0 := (hb.out.cell (p := ⟨g, _, none⟩) hg).trans (P k hlt 0 _ rfl)
   have p1 := (hb.out.cell (p := ⟨g, _, none⟩) hg).trans (P k hlt 1 _ rfl)
   have p2 := (hb.out.cell (p := ⟨g, _, none⟩) hg).trans (P k hlt 2 _ rfl)
   have p3 := (hb.out.cell (p := ⟨g, _, none⟩) hg).trans (P k hlt 3 _ rfl)
   simp only [Nat.add_zero] at p0
   have hstep := clashF_step n M C k hlt
   rw [hs.out] at hstep
   obtain ⟨r1, r2, _, _⟩ := ok k hlt
   have ra := wf64 r1
   have rb := wf64 r2
   unfold hit at hstep
   generalize C[k].a = xa at *
   generalize C[k].b = xb at *
   generalize C[k].ab = xab at *
   generalize C[k].ba = xba at *
   have t1 : (k : Int) < (C.length : Int) := by omega
   have t0 : (0 : Int) ≤ (k : Int) := by omega
   have t2 : k + 1 ≤ C.length := hlt
   clear P hk hs ok r1 r2
   have hbN : Below w.heap.size w (wr.alloc (.cells #[.int .i64 xa, .int .i64 xb, .int .i64 xab, .int .i64 xba] 93)) := hb.out.alloc hb.out.size _
   have BN := B.out.alloc (.cells #[.int .i64 xa, .int .i64 xb, .int .i64 xab, .int .i64 xba] 93)
   have hHa := fun (W : World) => hasS_any M' xa W hMl ra
   have hHb := fun (W : World) => hasS_any M' xb W hMl rb
   rw [← hN xa, ← hN xb] at hstep
   cases ea : hasN M' xa with
   | true =>
     rw [ea] at hHa
     cases eb : hasN M' xb with
     | true =>
       rw [eb] at hHb
       have hA' : A = (xa, xb, true) := by rw [hstep, ea, eb]; rfl
       subst hA'
       clear hstep
       go_wp2_with (first | (go_at_call 108; (with_reducible refine Calls.mono (hHa _) ?_); rintro e w2 ⟨rfl, rfl⟩) | (go_at_call 108; (with_reducible refine Calls.mono (hHb _) ?_); rintro e w2 ⟨rfl, rfl⟩))
       go_quiet (fail)
       go_wp2
       exact bodyPost_ret (v := .tuple #[.int .i64 xa, .int .i64 xb, .bool true]) (by simp [results, Tryz.results107, go_sem]) rfl ⟨rfl, bel_drewN hbN⟩
     | false =>
       rw [eb] at hHb
       have hs' : Hid (clashF n M (C.drop (k + 1)) = A) := by show _ = _; rw [hstep, ea, eb]; simp
       clear hstep
       go_wp2_with (first | (go_at_call 108; (with_reducible refine Calls.mono (hHa _) ?_); rintro e w2 ⟨rfl, rfl⟩) | (go_at_call 108; (with_reducible refine Calls.mono (hHb _) ?_); rintro e w2 ⟨rfl, rfl⟩))
       go_roundw
       case rel => exact ⟨k + 1, by omega, by go_num, hs', BN, hbN⟩
       case measure => simp [intOf]; omega
   | false =>
     rw [ea] at hHa
     clear hHb
     have hs' : Hid (clashF n M (C.drop (k + 1)) = A) := by show _ = _; rw [hstep, ea]; simp
     clear hstep
     go_wp2_with (first | (go_at_call 108; (with_reducible refine Calls.mono (hHa _) ?_); rintro e w2 ⟨rfl, rfl⟩) | (go_at_call 108; (with_reducible refine Calls.mono (hHb _) ?_); rintro e w2 ⟨rfl, rfl⟩))
     go_roundw
     case rel => exact ⟨k + 1, by omega, by go_num, hs', BN, hbN⟩
     case measure => simp [intOf]; omega

  ·have t1 : ¬ (k : Int) < (C.length : Int) := by omega
   have hA' : A = (-1, -1, false) := by rw [← hs.out]; exact clashF_end n M C k (by omega)
   subst hA'
   clear hs
   go_wp2
   exact bodyPost_ret (v := .tuple #[.int .i64 (-1), .int .i64 (-1), .bool false]) (by simp [results, Tryz.results107, go_sem]) rfl ⟨rfl, hb.out⟩
open Go.RowKit
set_option linter.unusedVariables false

set_option maxRecDepth 100000 in
set_option maxHeartbeats 4000000 in
theorem refClash_any (n : Nat) (M : Nat) (C : List Cf) (va : Option Addr) (cap0 : Nat) (vc : Value) (w : World) (hM : M < 18446744073709551616) (hn : n ≤ 2932031007317) (h : Fl 4 Cf.cs w vc C) (hl : C.length ≤ 4398046511000) (ok : ∀ (i : Nat) (h : i < C.length), C[i].ok) :
  Calls Tryz.prog 109 #[.agg #[.slice va n cap0, vc], .int .u64 (M : Int)] w fun e w' => e = .returned (.tuple #[.int .i64 (clashF n M C).1, .int .i64 (clashF n M C).2.1, .bool (clashF n M C).2.2]) ∧ Below w.heap.size w w' := by
 obtain ⟨vb, cap, rfl, hk⟩ := h.any
 clear h
 generalize hA : clashF n M C = A
 have B0 : Has (w.alloc (.cells #[.slice va n cap0, .slice vb C.length cap] 25)) w.heap.size #[.slice va n cap0, .slice vb C.length cap] := Has.new _ _ _ rfl
 have hb0 : Below w.heap.size w (w.alloc (.cells #[.slice va n cap0, .slice vb C.length cap] 25)) := belN1
 go_enter Tryz.func109, Tryz.ntmps109
 go_wp2
 generalize (w.alloc (.cells #[.slice va n cap0, .slice vb C.length cap] 25)) = W0 at *
 go_loopw [8] (fun t wr => ∃ k : Nat, k ≤ C.length ∧ t = .int .i64 (k : Int) ∧ Hid (clashF n M (C.drop k) = A) ∧ Hid (Has wr w.heap.size #[.slice va n cap0, .slice vb C.length cap]) ∧ Hid (Below w.heap.size w wr)) (fun t _ => C.length - (intOf t).toNat)
 case atStart => exact ⟨0, by omega, rfl, hA, B0, hb0⟩
 case round =>
  clear B0 hb0
  obtain ⟨k, hkl, rfl, hs, B, hb⟩ := hrel
  obtain ⟨_, b1, _⟩ := id B.out
  by_cases hlt : k < C.length
  ·obtain ⟨g, o, rfl, hg, P⟩ := hk.resolve_left (by intro e; rw [e] at hlt; simp at hlt)
   have p0 := (hb.out.cell (p := ⟨g, _, none⟩) hg).trans (P k hlt 0 _ rfl)
   have p1 := (hb.out.cell (p := ⟨g, _, none⟩) hg).trans (P k hlt 1 _ rfl)
   have p2 := (hb.out.cell (p := ⟨g, _, none⟩) hg).trans (P k hlt 2 _ rfl)
   have p3 := (hb.out.cell (p := ⟨g, _, none⟩) hg).trans (P k hlt 3 _ rfl)
   simp only [Nat.add_zero] at p0
   have hstep := clashF_step n M C k hlt
   rw [hs.out] at hstep
   obtain ⟨r1, r2, _, _⟩ := ok k hlt
   have ra := wf64 r1
   have rb := wf64 r2
   unfold hit at hstep
   generalize C[k].a = xa at *
   generalize C[k].b = xb at *
   generalize C[k].ab = xab at *
   generalize C[k].ba = xba at *
   have t1 : (k : Int) < (C.length : Int) := by omega
   have t0 : (0 : Int) ≤ (k : Int) := by omega
   have t2 : k + 1 ≤ C.length := hlt
   clear P hk hs ok r1 r2
   have hbN : Below w.heap.size w (wr.alloc (.cells #[.int .i64 xa, .int .i64 xb, .int .i64 xab, .int .i64 xba] 93)) := hb.out.alloc hb.out.size _
   have BN := B.out.alloc (.cells #[.int .i64 xa, .int .i64 xb, .int .i64 xab, .int .i64 xba] 93)
   have hHa := fun (W : World) => hasR_any M xa W hM ra
   have hHb := fun (W : World) => hasR_any M xb W hM rb
   by_cases da : xa < (n : Int)
   ·have da' : decide (xa < (n : Int)) = true := by simpa using da
    by_cases db : xb < (n : Int)
    ·have db' : decide (xb < (n : Int)) = true := by simpa using db
     cases ea : hasN M xa with
     | true =>
       rw [ea] at hHa
       cases eb : hasN M xb with
       | true =>
         rw [eb] at hHb
         have hA' : A = (xa, xb, true) := by rw [hstep, ea, eb, da', db']; rfl
         subst hA'
         clear hstep
         go_wp2_with (first | (go_at_call 110; (with_reducible refine Calls.mono (hHa _) ?_); rintro e w2 ⟨rfl, rfl⟩) | (go_at_call 110; (with_reducible refine Calls.mono (hHb _) ?_); rintro e w2 ⟨rfl, rfl⟩))
         go_quiet (fail)
         go_wp2
         exact bodyPost_ret (v := .tuple #[.int .i64 xa, .int .i64 xb, .bool true]) (by simp [results, Tryz.results109, go_sem]) rfl ⟨rfl, bel_drewN hbN⟩
       | false =>
         rw [eb] at hHb
         have hs' : Hid (clashF n M (C.drop (k + 1)) = A) := by show _ = _; rw [hstep, ea, eb]; simp
         clear hstep
         go_wp2_with (first | (go_at_call 110; (with_reducible refine Calls.mono (hHa _) ?_); rintro e w2 ⟨rfl, rfl⟩) | (go_at_call 110; (with_reducible refine Calls.mono (hHb _) ?_); rintro e w2 ⟨rfl, rfl⟩))
         go_roundw
         case rel => exact ⟨k + 1, by omega, by go_num, hs', BN, hbN⟩
         case measure => simp [intOf]; omega
     | false =>
       rw [ea] at hHa
       clear hHb
       have hs' : Hid (clashF n M (C.drop (k + 1)) = A) := by show _ = _; rw [hstep, ea]; simp
       clear hstep
       go_wp2_with (first | (go_at_call 110; (with_reducible refine Calls.mono (hHa _) ?_); rintro e w2 ⟨rfl, rfl⟩) | (go_at_call 110; (with_reducible refine Calls.mono (hHb _) ?_); rintro e w2 ⟨rfl, rfl⟩))
       go_roundw
       case rel => exact ⟨k + 1, by omega, by go_num, hs', BN, hbN⟩
       case measure => simp [intOf]; omega
    ·have db' : decide (xb < (n : Int)) = false := by simpa using db
     have hs' : Hid (clashF n M (C.drop (k + 1)) = A) := by show _ = _; rw [hstep, db']; simp
     clear hstep
     go_wp2_with (first | (go_at_call 110; (with_reducible refine Calls.mono (hHa _) ?_); rintro e w2 ⟨rfl, rfl⟩) | (go_at_call 110; (with_reducible refine Calls.mono (hHb _) ?_); rintro e w2 ⟨rfl, rfl⟩))
     go_roundw
     case rel => exact ⟨k + 1, by omega, by go_num, hs', BN, hbN⟩
     case measure => simp [intOf]; omega
   ·have da' : decide (xa < (n : Int)) = false := by simpa using da
    have hs' : Hid (clashF n M (C.drop (k + 1)) = A) := by show _ = _; rw [hstep, da']; simp
    clear hstep
    go_wp2_with (first | (go_at_call 110; (with_reducible refine Calls.mono (hHa _) ?_); rintro e w2 ⟨rfl, rfl⟩) | (go_at_call 110; (with_reducible refine Calls.mono (hHb _) ?_); rintro e w2 ⟨rfl, rfl⟩))
    go_roundw
    case rel => exact ⟨k + 1, by omega, by go_num, hs', BN, hbN⟩
    case measure => simp [intOf]; omega

  ·have t1 : ¬ (k : Int) < (C.length : Int) := by omega
   have hA' : A = (-1, -1, false) := by rw [← hs.out]; exact clashF_end n M C k (by omega)
   subst hA'
   clear hs
   go_wp2
   exact bodyPost_ret (v := .tuple #[.int .i64 (-1), .int .i64 (-1), .bool false]) (by simp [results, Tryz.results109, go_sem]) rfl ⟨rfl, hb.out⟩
open Go.RowKit
set_option linter.unusedVariables false

set_option maxRecDepth 100000 in
set_option maxHeartbeats 4000000 in
theorem refInter_any (C : List Cf) (vg vc : Value) (a b : Int) (w : World) (h : Fl 4 Cf.cs w vc C) (hl : C.length ≤ 4398046511000) :
  Calls Tryz.prog 118 #[.agg #[vg, vc], .int .i64 a, .int .i64 b] w fun e w' => e = .returned (.tuple #[.int .i64 (interF C a b).1, .bool (interF C a b).2]) ∧ Below w.heap.size w w' := by
 obtain ⟨va, cap, rfl, hk⟩ := h.any
 clear h
 generalize hA : interF C a b = A
 go_enter Tryz.func118, Tryz.ntmps118
 go_wp2
 have B0 : Has (w.alloc (.cells #[vg, .slice va C.length cap] 25)) w.heap.size #[vg, .slice va C.length cap] := Has.new _ _ _ rfl
 have hb0 : Below w.heap.size w (w.alloc (.cells #[vg, .slice va C.length cap] 25)) := (Below.refl _ _).alloc (Nat.le_refl _) _
 generalize (w.alloc (.cells #[vg, .slice va C.length cap] 25)) = W0 at *
 go_loopw [8] (fun t wr => ∃ k : Nat, k ≤ C.length ∧ t = .int .i64 (k : Int) ∧ Hid (interF (C.drop k) a b = A) ∧ Hid (Has wr w.heap.size #[vg, .slice va C.length cap]) ∧ Hid (Below w.heap.size w wr)) (fun t _ => C.length - (intOf t).toNat)
 case atStart => exact ⟨0, by omega, rfl, hA, B0, hb0⟩
 case round =>
  clear B0 hb0
  obtain ⟨k, hkl, rfl, hs, B, hb⟩ := hrel
  obtain ⟨_, b1, _⟩ := id B.out
  by_cases hlt : k < C.length
  ·obtain ⟨g, o, rfl, hg, P⟩ := hk.resolve_left (by intro e; rw [e] at hlt; simp at hlt)
   have p0 := (hb.out.cell (p := ⟨g, _, none⟩) hg).trans (P k hlt 0 _ rfl)
   have p1 := (hb.out.cell (p := ⟨g, _, none⟩) hg).trans (P k hlt 1 _ rfl)
   have p2 := (hb.out.cell (p := ⟨g, _, none⟩) hg).trans (P k hlt 2 _ rfl)
   have p3 := (hb.out.cell (p := ⟨g, _, none⟩) hg).trans (P k hlt 3 _ rfl)
   simp only [Nat.add_zero] at p0
   have hstep := interF_step C a b k hlt
   rw [hs.out] at hstep
   generalize C[k].a = xa at *
   generalize C[k].b = xb at *
   generalize C[k].ab = xab at *
   generalize C[k].ba = xba at *
   have t1 : (k : Int) < (C.length : Int) := by omega
   have t0 : (0 : Int) ≤ (k : Int) := by omega
   have t2 : k + 1 ≤ C.length := hlt
   clear P hk hs
   have hbN : Below w.heap.size w (wr.alloc (.cells #[.int .i64 xa, .int .i64 xb, .int .i64 xab, .int .i64 xba] 93)) := hb.out.alloc hb.out.size _
   by_cases e1 : xa = a ∧ xb = b
   ·rw [if_pos e1] at hstep
    obtain ⟨rfl, rfl⟩ := e1
    subst hstep
    go_wp2
    skip
    go_wp2
    exact bodyPost_ret (v := .tuple #[.int .i64 xab, .bool true]) (by simp [results, Tryz.results118, go_sem]) rfl ⟨rfl, hbN⟩
   ·rw [if_neg e1] at hstep
    have e1' : (xa == a && xb == b) = false := by simpa using e1
    by_cases e2 : xa = b ∧ xb = a
    ·rw [if_pos e2] at hstep
     obtain ⟨rfl, rfl⟩ := e2
     subst hstep
     have f : ¬ xa = xb := fun h => e1 ⟨h, h.symm⟩
     go_wp2
     exact bodyPost_ret (v := .tuple #[.int .i64 xba, .bool true]) (by simp [results, Tryz.results118, go_sem]) rfl ⟨rfl, hbN⟩
    ·rw [if_neg e2] at hstep
     have e2' : (xa == b && xb == a) = false := by simpa using e2
     have BN := B.out.alloc (.cells #[.int .i64 xa, .int .i64 xb, .int .i64 xab, .int .i64 xba] 93)
     have hs' : Hid (interF (C.drop (k + 1)) a b = A) := hstep.symm
     clear e1' e2' hstep
     by_cases f1 : xa = a
     ·have f2 : ¬ xb = b := fun h => e1 ⟨f1, h⟩
      by_cases f3 : xa = b
      ·have f4 : ¬ xb = a := fun h => e2 ⟨f3, h⟩
       clear e1 e2
       subst f1
       subst f3
       go_wp2
       go_roundw
       case rel => exact ⟨k + 1, by omega, by go_num, hs', BN, hbN⟩
       case measure => simp [intOf]; omega
      ·clear e1 e2
       subst f1
       go_wp2
       go_roundw
       case rel => exact ⟨k + 1, by omega, by go_num, hs', BN, hbN⟩
       case measure => simp [intOf]; omega
     ·by_cases f3 : xa = b
      ·have f4 : ¬ xb = a := fun h => e2 ⟨f3, h⟩
       clear e1 e2
       subst f3
       go_wp2
       go_roundw
       case rel => exact ⟨k + 1, by omega, by go_num, hs', BN, hbN⟩
       case measure => simp [intOf]; omega
      ·clear e1 e2
       go_wp2
       go_roundw
       case rel => exact ⟨k + 1, by omega, by go_num, hs', BN, hbN⟩
       case measure => simp [intOf]; omega

  ·have t1 : ¬ (k : Int) < (C.length : Int) := by omega
   have hA' : A = (0, false) := by rw [← hs.out]; exact interF_end C a b k (by omega)
   subst hA'
   clear hs
   go_wp2
   exact bodyPost_ret (v := .tuple #[.int .i64 0, .bool false]) (by simp [results, Tryz.results118, go_sem]) rfl ⟨rfl, hb.out⟩
open Go.RowKit
set_option linter.unusedVariables false

theorem hasN_andNot (F T : Nat) (g : Int) (hT : T < 18446744073709551616) : hasN (F &&& (18446744073709551615 - T)) g = (hasN F g && !hasN T g) := by
 unfold hasN
 by_cases h0 : 0 ≤ g
 ·by_cases h1 : g < 64
  ·have e : (18446744073709551615 - T).testBit g.toNat = !T.testBit g.toNat := by
    have := Nat.testBit_two_pow_sub_succ (x := T) (n := 64) (by simpa using hT) g.toNat
    have e2 : 2 ^ 64 - (T + 1) = 18446744073709551615 - T := by omega
    rw [e2] at this
    rw [this]
    have h2 : g.toNat < 64 := by omega
    simp [h2]
   rw [Nat.testBit_and, e]; simp [h0, h1]
  ·simp [h1]
 ·simp [h0]
/-- Does group k lose its green? -/
def loses (F T : Nat) (k : Nat) : Bool := hasN F (k : Int) && !hasN T (k : Int)
theorem grid_min {G : List Gp} {C : List Cf} (h : gridB G C = true) (k : Nat) (hk : k < G.length) : 1 ≤ G[k].min ∧ G[k].min ≤ 3600 ∧ 0 ≤ G[k].amber ∧ G[k].amber ≤ 60 ∧ 0 ≤ G[k].lead ∧ G[k].lead ≤ 60 := by
 simp [gridB] at h
 have := h.2.1 G[k] (List.getElem_mem hk)
 simp [gpB, timeB, amberB] at this
 omega
open Go.RowKit
set_option linter.unusedVariables false

end Go.Proofs.YtnicolaphmffkaaGreatDoor
