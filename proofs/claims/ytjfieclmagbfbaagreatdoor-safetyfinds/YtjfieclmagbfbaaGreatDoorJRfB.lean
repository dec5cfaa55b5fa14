import Derived.Test.YtjfieclmagbfbaaGreatDoorJRoS
set_option linter.unusedVariables false
set_option maxRecDepth 100000
set_option maxHeartbeats 8000000
namespace Go.Proofs.YtjfieclmagbfbaaGreatDoor
open Go.RowKit
theorem wf64 {n : Int} (h : (Lit.int .i64 n).wf = true) : -9223372036854775808 ≤ n ∧ n ≤ 9223372036854775807 := by
 simp [Lit.wf, IntKind.min, IntKind.max, IntKind.bits, IntKind.signed] at h
 omega
theorem clash_any (n : Nat) (M : Nat) (C : List Cf) (va : Option Addr) (cap0 : Nat) (vc : Value) (w : World) (hM : M < 18446744073709551616) (hn : n ≤ 2932031007317) (h : Fl 4 Cf.cs w vc C) (hl : C.length ≤ 4398046511000) (ok : ∀ (i : Nat) (h : i < C.length), C[i].ok) :
  Calls Tryz.prog 33 #[.agg #[.slice va n cap0, vc], .int .u64 (M : Int)] w fun e w' => e = .returned (.tuple #[.int .i64 (zBd n M C).1, .int .i64 (zBd n M C).2.1, .bool (zBd n M C).2.2]) ∧ Below w.heap.size w w' := by
 obtain ⟨vb, cap, rfl, hk⟩ := h.any
 clear h
 generalize hA : zBd n M C = A
 have B0 : Has (w.alloc (.cells #[.slice va n cap0, .slice vb C.length cap] 25)) w.heap.size #[.slice va n cap0, .slice vb C.length cap] := Has.new _ _ _ rfl
 have hb0 : Below w.heap.size w (w.alloc (.cells #[.slice va n cap0, .slice vb C.length cap] 25)) := zBz
 have hMl : M &&& (2 ^ min n 64 - 1) < 18446744073709551616 := Nat.lt_of_le_of_lt Nat.and_le_left hM
 have hMa : bits .and .u64 (M : Int) ((2 ^ min n 64 - 1 : Nat) : Int) = ((M &&& (2 ^ min n 64 - 1) : Nat) : Int) := bits_and_u64_nat _ _ hM (allOf_lt n)
 have hN := fun g => hasN_and M n g
 have hAl := fun (W : World) => allOf_any n va cap0 W hn
 generalize 2 ^ min n 64 - 1 = Al at *
 generalize M &&& Al = M' at *
 go_enter Tryz.func33, Tryz.ntmps33
 go_wp2_with (go_at_call 62; (with_reducible refine Calls.mono (hAl _) ?_); rintro e w2 ⟨rfl, rfl⟩)
 clear hAl
 generalize (w.alloc (.cells #[.slice va n cap0, .slice vb C.length cap] 25)) = W0 at *
 go_loopw [17] (fun t wr => ∃ k : Nat, k ≤ C.length ∧ t = .int .i64 (k : Int) ∧ Hid (zBd n M (C.drop k) = A) ∧ Hid (Has wr w.heap.size #[.slice va n cap0, .slice vb C.length cap]) ∧ Hid (Below w.heap.size w wr)) (fun t _ => C.length - (intOf t).toNat)
 case atStart => exact ⟨0, by omega, rfl, hA, B0, hb0⟩
 case round =>
  clear B0 hb0; obtain ⟨k, hkl, rfl, hs, B, hb⟩ := hrel; obtain ⟨_, b1, _⟩ := id B.out
  by_cases hlt : k < C.length
  ·obtain ⟨g, o, rfl, hg, P⟩ := hk.resolve_left (by intro e; rw [e] at hlt; simp at hlt)
   have p0 := (hb.out.cell (p := ⟨g, _, none⟩) hg).trans (P k hlt 0 _ rfl); have p1 := (hb.out.cell (p := ⟨g, _, none⟩) hg).trans (P k hlt 1 _ rfl); have p2 := (hb.out.cell (p := ⟨g, _, none⟩) hg).trans (P k hlt 2 _ rfl); have p3 := (hb.out.cell (p := ⟨g, _, none⟩) hg).trans (P k hlt 3 _ rfl); simp only [Nat.add_zero] at p0; have hstep := clashF_step n M C k hlt; rw [hs.out] at hstep; obtain ⟨r1, r2, _, _⟩ := ok k hlt; have ra := wf64 r1; have rb := wf64 r2; unfold hit at hstep; generalize C[k].a = xa at *; generalize C[k].b = xb at *; generalize C[k].ab = xab at *; generalize C[k].ba = xba at *; have t1 : (k : Int) < (C.length : Int) := by omega
   have t0 : (0 : Int) ≤ (k : Int) := by omega
   have t2 : k + 1 ≤ C.length := hlt; clear P hk hs ok r1 r2; have hbN : Below w.heap.size w (wr.alloc (.cells #[.int .i64 xa, .int .i64 xb, .int .i64 xab, .int .i64 xba] 75)) := hb.out.alloc hb.out.size _; have BN := B.out.alloc (.cells #[.int .i64 xa, .int .i64 xb, .int .i64 xab, .int .i64 xba] 75); have hHa := fun (W : World) => zDq M' xa W hMl ra
   have hHb := fun (W : World) => zDq M' xb W hMl rb
   rw [← hN xa, ← hN xb] at hstep
   cases ea : hasN M' xa with
   | true =>
     rw [ea] at hHa
     cases eb : hasN M' xb with
     | true =>
       rw [eb] at hHb; have hA' : A = (xa, xb, true) := by rw [hstep, ea, eb]; rfl
       subst hA'; clear hstep
       go_wp2_with (first | (go_at_call 65; (with_reducible refine Calls.mono (hHa _) ?_); rintro e w2 ⟨rfl, rfl⟩) | (go_at_call 65; (with_reducible refine Calls.mono (hHb _) ?_); rintro e w2 ⟨rfl, rfl⟩))
       go_quiet (fail)
       go_wp2; exact bodyPost_ret (v := .tuple #[.int .i64 xa, .int .i64 xb, .bool true]) (by simp [results, Tryz.results33, go_sem]) rfl ⟨rfl, zAh hbN⟩
     | false =>
       rw [eb] at hHb; have hs' : Hid (zBd n M (C.drop (k + 1)) = A) := by show _ = _; rw [hstep, ea, eb]; simp
       clear hstep
       go_wp2_with (first | (go_at_call 65; (with_reducible refine Calls.mono (hHa _) ?_); rintro e w2 ⟨rfl, rfl⟩) | (go_at_call 65; (with_reducible refine Calls.mono (hHb _) ?_); rintro e w2 ⟨rfl, rfl⟩))
       go_roundw
       case rel => exact ⟨k + 1, by omega, by go_num, hs', BN, hbN⟩
       case measure => simp [intOf]; omega
   | false =>
     rw [ea] at hHa; clear hHb; have hs' : Hid (zBd n M (C.drop (k + 1)) = A) := by show _ = _; rw [hstep, ea]; simp
     clear hstep
     go_wp2_with (first | (go_at_call 65; (with_reducible refine Calls.mono (hHa _) ?_); rintro e w2 ⟨rfl, rfl⟩) | (go_at_call 65; (with_reducible refine Calls.mono (hHb _) ?_); rintro e w2 ⟨rfl, rfl⟩))
     go_roundw
     case rel => exact ⟨k + 1, by omega, by go_num, hs', BN, hbN⟩
     case measure => simp [intOf]; omega
  ·have t1 : ¬ (k : Int) < (C.length : Int) := by omega
   have hA' : A = (-1, -1, false) := by rw [← hs.out]; exact clashF_end n M C k (by omega)
   subst hA'; clear hs; go_wp2; exact bodyPost_ret (v := .tuple #[.int .i64 (-1), .int .i64 (-1), .bool false]) (by simp [results, Tryz.results33, go_sem]) rfl ⟨rfl, hb.out⟩
theorem zGn (n : Nat) (M : Nat) (C : List Cf) (va : Option Addr) (cap0 : Nat) (vc : Value) (w : World) (hM : M < 18446744073709551616) (hn : n ≤ 2932031007317) (h : Fl 4 Cf.cs w vc C) (hl : C.length ≤ 4398046511000) (ok : ∀ (i : Nat) (h : i < C.length), C[i].ok) :
  Calls Tryz.prog 121 #[.agg #[.slice va n cap0, vc], .int .u64 (M : Int)] w fun e w' => e = .returned (.tuple #[.int .i64 (zBd n M C).1, .int .i64 (zBd n M C).2.1, .bool (zBd n M C).2.2]) ∧ Below w.heap.size w w' := by
 obtain ⟨vb, cap, rfl, hk⟩ := h.any
 clear h
 generalize hA : zBd n M C = A
 have B0 : Has (w.alloc (.cells #[.slice va n cap0, .slice vb C.length cap] 25)) w.heap.size #[.slice va n cap0, .slice vb C.length cap] := Has.new _ _ _ rfl
 have hb0 : Below w.heap.size w (w.alloc (.cells #[.slice va n cap0, .slice vb C.length cap] 25)) := zBz
 go_enter Tryz.func121, Tryz.ntmps121
 go_wp2
 generalize (w.alloc (.cells #[.slice va n cap0, .slice vb C.length cap] 25)) = W0 at *
 go_loopw [8] (fun t wr => ∃ k : Nat, k ≤ C.length ∧ t = .int .i64 (k : Int) ∧ Hid (zBd n M (C.drop k) = A) ∧ Hid (Has wr w.heap.size #[.slice va n cap0, .slice vb C.length cap]) ∧ Hid (Below w.heap.size w wr)) (fun t _ => C.length - (intOf t).toNat)
 case atStart => exact ⟨0, by omega, rfl, hA, B0, hb0⟩
 case round =>
  clear B0 hb0; obtain ⟨k, hkl, rfl, hs, B, hb⟩ := hrel; obtain ⟨_, b1, _⟩ := id B.out
  by_cases hlt : k < C.length
  ·obtain ⟨g, o, rfl, hg, P⟩ := hk.resolve_left (by intro e; rw [e] at hlt; simp at hlt)
   have p0 := (hb.out.cell (p := ⟨g, _, none⟩) hg).trans (P k hlt 0 _ rfl); have p1 := (hb.out.cell (p := ⟨g, _, none⟩) hg).trans (P k hlt 1 _ rfl); have p2 := (hb.out.cell (p := ⟨g, _, none⟩) hg).trans (P k hlt 2 _ rfl); have p3 := (hb.out.cell (p := ⟨g, _, none⟩) hg).trans (P k hlt 3 _ rfl); simp only [Nat.add_zero] at p0; have hstep := clashF_step n M C k hlt; rw [hs.out] at hstep; obtain ⟨r1, r2, _, _⟩ := ok k hlt; have ra := wf64 r1; have rb := wf64 r2; unfold hit at hstep; generalize C[k].a = xa at *; generalize C[k].b = xb at *; generalize C[k].ab = xab at *; generalize C[k].ba = xba at *; have t1 : (k : Int) < (C.length : Int) := by omega
   have t0 : (0 : Int) ≤ (k : Int) := by omega
   have t2 : k + 1 ≤ C.length := hlt; clear P hk hs ok r1 r2; have hbN : Below w.heap.size w (wr.alloc (.cells #[.int .i64 xa, .int .i64 xb, .int .i64 xab, .int .i64 xba] 75)) := hb.out.alloc hb.out.size _; have BN := B.out.alloc (.cells #[.int .i64 xa, .int .i64 xb, .int .i64 xab, .int .i64 xba] 75); have hHa := fun (W : World) => zDc M xa W hM ra
   have hHb := fun (W : World) => zDc M xb W hM rb
   by_cases da : xa < (n : Int)
   ·have da' : decide (xa < (n : Int)) = true := by simpa using da
    by_cases db : xb < (n : Int)
    ·have db' : decide (xb < (n : Int)) = true := by simpa using db
     cases ea : hasN M xa with
     | true =>
       rw [ea] at hHa
       cases eb : hasN M xb with
       | true =>
         rw [eb] at hHb; have hA' : A = (xa, xb, true) := by rw [hstep, ea, eb, da', db']; rfl
         subst hA'; clear hstep
         go_wp2_with (first | (go_at_call 73; (with_reducible refine Calls.mono (hHa _) ?_); rintro e w2 ⟨rfl, rfl⟩) | (go_at_call 73; (with_reducible refine Calls.mono (hHb _) ?_); rintro e w2 ⟨rfl, rfl⟩))
         go_quiet (fail)
         go_wp2; exact bodyPost_ret (v := .tuple #[.int .i64 xa, .int .i64 xb, .bool true]) (by simp [results, Tryz.results121, go_sem]) rfl ⟨rfl, zAh hbN⟩
       | false =>
         rw [eb] at hHb; have hs' : Hid (zBd n M (C.drop (k + 1)) = A) := by show _ = _; rw [hstep, ea, eb]; simp
         clear hstep
         go_wp2_with (first | (go_at_call 73; (with_reducible refine Calls.mono (hHa _) ?_); rintro e w2 ⟨rfl, rfl⟩) | (go_at_call 73; (with_reducible refine Calls.mono (hHb _) ?_); rintro e w2 ⟨rfl, rfl⟩))
         go_roundw
         case rel => exact ⟨k + 1, by omega, by go_num, hs', BN, hbN⟩
         case measure => simp [intOf]; omega
     | false =>
       rw [ea] at hHa; clear hHb; have hs' : Hid (zBd n M (C.drop (k + 1)) = A) := by show _ = _; rw [hstep, ea]; simp
       clear hstep
       go_wp2_with (first | (go_at_call 73; (with_reducible refine Calls.mono (hHa _) ?_); rintro e w2 ⟨rfl, rfl⟩) | (go_at_call 73; (with_reducible refine Calls.mono (hHb _) ?_); rintro e w2 ⟨rfl, rfl⟩))
       go_roundw
       case rel => exact ⟨k + 1, by omega, by go_num, hs', BN, hbN⟩
       case measure => simp [intOf]; omega
    ·have db' : decide (xb < (n : Int)) = false := by simpa using db
     have hs' : Hid (zBd n M (C.drop (k + 1)) = A) := by show _ = _; rw [hstep, db']; simp
     clear hstep
     go_wp2_with (first | (go_at_call 73; (with_reducible refine Calls.mono (hHa _) ?_); rintro e w2 ⟨rfl, rfl⟩) | (go_at_call 73; (with_reducible refine Calls.mono (hHb _) ?_); rintro e w2 ⟨rfl, rfl⟩))
     go_roundw
     case rel => exact ⟨k + 1, by omega, by go_num, hs', BN, hbN⟩
     case measure => simp [intOf]; omega
   ·have da' : decide (xa < (n : Int)) = false := by simpa using da
    have hs' : Hid (zBd n M (C.drop (k + 1)) = A) := by show _ = _; rw [hstep, da']; simp
    clear hstep
    go_wp2_with (first | (go_at_call 73; (with_reducible refine Calls.mono (hHa _) ?_); rintro e w2 ⟨rfl, rfl⟩) | (go_at_call 73; (with_reducible refine Calls.mono (hHb _) ?_); rintro e w2 ⟨rfl, rfl⟩))
    go_roundw
    case rel => exact ⟨k + 1, by omega, by go_num, hs', BN, hbN⟩
    case measure => simp [intOf]; omega
  ·have t1 : ¬ (k : Int) < (C.length : Int) := by omega
   have hA' : A = (-1, -1, false) := by rw [← hs.out]; exact clashF_end n M C k (by omega)
   subst hA'; clear hs; go_wp2; exact bodyPost_ret (v := .tuple #[.int .i64 (-1), .int .i64 (-1), .bool false]) (by simp [results, Tryz.results121, go_sem]) rfl ⟨rfl, hb.out⟩
theorem refInter_any (C : List Cf) (vg vc : Value) (a b : Int) (w : World) (h : Fl 4 Cf.cs w vc C) (hl : C.length ≤ 4398046511000) :
  Calls Tryz.prog 145 #[.agg #[vg, vc], .int .i64 a, .int .i64 b] w fun e w' => e = .returned (.tuple #[.int .i64 (zAu C a b).1, .bool (zAu C a b).2]) ∧ Below w.heap.size w w' := by
 obtain ⟨va, cap, rfl, hk⟩ := h.any
 clear h
 generalize hA : zAu C a b = A
 go_enter Tryz.func145, Tryz.ntmps145
 go_wp2
 have B0 : Has (w.alloc (.cells #[vg, .slice va C.length cap] 25)) w.heap.size #[vg, .slice va C.length cap] := Has.new _ _ _ rfl
 have hb0 : Below w.heap.size w (w.alloc (.cells #[vg, .slice va C.length cap] 25)) := (Below.refl _ _).alloc (Nat.le_refl _) _
 generalize (w.alloc (.cells #[vg, .slice va C.length cap] 25)) = W0 at *
 go_loopw [8] (fun t wr => ∃ k : Nat, k ≤ C.length ∧ t = .int .i64 (k : Int) ∧ Hid (zAu (C.drop k) a b = A) ∧ Hid (Has wr w.heap.size #[vg, .slice va C.length cap]) ∧ Hid (Below w.heap.size w wr)) (fun t _ => C.length - (intOf t).toNat)
 case atStart => exact ⟨0, by omega, rfl, hA, B0, hb0⟩
 case round =>
  clear B0 hb0; obtain ⟨k, hkl, rfl, hs, B, hb⟩ := hrel; obtain ⟨_, b1, _⟩ := id B.out
  by_cases hlt : k < C.length
  ·obtain ⟨g, o, rfl, hg, P⟩ := hk.resolve_left (by intro e; rw [e] at hlt; simp at hlt)
   have p0 := (hb.out.cell (p := ⟨g, _, none⟩) hg).trans (P k hlt 0 _ rfl); have p1 := (hb.out.cell (p := ⟨g, _, none⟩) hg).trans (P k hlt 1 _ rfl); have p2 := (hb.out.cell (p := ⟨g, _, none⟩) hg).trans (P k hlt 2 _ rfl); have p3 := (hb.out.cell (p := ⟨g, _, none⟩) hg).trans (P k hlt 3 _ rfl); simp only [Nat.add_zero] at p0; have hstep := interF_step C a b k hlt; rw [hs.out] at hstep; generalize C[k].a = xa at *; generalize C[k].b = xb at *; generalize C[k].ab = xab at *; generalize C[k].ba = xba at *; have t1 : (k : Int) < (C.length : Int) := by omega
   have t0 : (0 : Int) ≤ (k : Int) := by omega
   have t2 : k + 1 ≤ C.length := hlt; clear P hk hs; have hbN : Below w.heap.size w (wr.alloc (.cells #[.int .i64 xa, .int .i64 xb, .int .i64 xab, .int .i64 xba] 75)) := hb.out.alloc hb.out.size _
   by_cases e1 : xa = a ∧ xb = b
   ·rw [if_pos e1] at hstep
    obtain ⟨rfl, rfl⟩ := e1; subst hstep; go_wp2
    skip
    go_wp2; exact bodyPost_ret (v := .tuple #[.int .i64 xab, .bool true]) (by simp [results, Tryz.results145, go_sem]) rfl ⟨rfl, hbN⟩
   ·rw [if_neg e1] at hstep
    have e1' : (xa == a && xb == b) = false := by simpa using e1
    by_cases e2 : xa = b ∧ xb = a
    ·rw [if_pos e2] at hstep
     obtain ⟨rfl, rfl⟩ := e2; subst hstep; have f : ¬ xa = xb := fun h => e1 ⟨h, h.symm⟩
     go_wp2; exact bodyPost_ret (v := .tuple #[.int .i64 xba, .bool true]) (by simp [results, Tryz.results145, go_sem]) rfl ⟨rfl, hbN⟩
    ·rw [if_neg e2] at hstep
     have e2' : (xa == b && xb == a) = false := by simpa using e2
     have BN := B.out.alloc (.cells #[.int .i64 xa, .int .i64 xb, .int .i64 xab, .int .i64 xba] 75); have hs' : Hid (zAu (C.drop (k + 1)) a b = A) := hstep.symm; clear e1' e2' hstep
     by_cases f1 : xa = a
     ·have f2 : ¬ xb = b := fun h => e1 ⟨f1, h⟩
      by_cases f3 : xa = b
      ·have f4 : ¬ xb = a := fun h => e2 ⟨f3, h⟩
       clear e1 e2; subst f1; subst f3; go_wp2; go_roundw
       case rel => exact ⟨k + 1, by omega, by go_num, hs', BN, hbN⟩
       case measure => simp [intOf]; omega
      ·clear e1 e2
       subst f1; go_wp2; go_roundw
       case rel => exact ⟨k + 1, by omega, by go_num, hs', BN, hbN⟩
       case measure => simp [intOf]; omega
     ·by_cases f3 : xa = b
      ·have f4 : ¬ xb = a := fun h => e2 ⟨f3, h⟩
       clear e1 e2; subst f3; go_wp2; go_roundw
       case rel => exact ⟨k + 1, by omega, by go_num, hs', BN, hbN⟩
       case measure => simp [intOf]; omega
      ·clear e1 e2
       go_wp2; go_roundw
       case rel => exact ⟨k + 1, by omega, by go_num, hs', BN, hbN⟩
       case measure => simp [intOf]; omega
  ·have t1 : ¬ (k : Int) < (C.length : Int) := by omega
   have hA' : A = (0, false) := by rw [← hs.out]; exact interF_end C a b k (by omega)
   subst hA'; clear hs; go_wp2; exact bodyPost_ret (v := .tuple #[.int .i64 0, .bool false]) (by simp [results, Tryz.results145, go_sem]) rfl ⟨rfl, hb.out⟩
def zCu (x : Gp) (C : List Cf) (o g : Int) : Int := if (zAu C o g).2 = true then (if x.amber > (zAu C o g).1 then x.amber else (zAu C o g).1) else 0
theorem inter_in {n : Nat} : ∀ (C : List Cf) (p : Option Cf) (a b : Int), zBv n p C = true → 0 ≤ (zAu C a b).1 ∧ (zAu C a b).1 ≤ 3600
 | [], _, _, _, _ => by simp [zAu]
 | c :: cs, p, a, b, h => by
   simp [zBv, cfB, zDa] at h; have ih := inter_in cs (some c) a b h.2; unfold zAu; split
   ·simp; omega
   ·split
    ·simp; omega
    ·exact ih
theorem wait_in {G : List Gp} {C : List Cf} (h : zBg G C = true) (k : Nat) (hk : k < G.length) (o g : Int) : 0 ≤ zCu G[k] C o g ∧ zCu G[k] C o g ≤ 3600 := by
 have h1 := grid_min h k hk
 have h2 : zBv G.length none C = true := by simp [zBg] at h; exact h.2.2
 have h3 := inter_in C none o g h2
 unfold zCu
 split
 ·split <;> omega
 ·omega
theorem wait_any (G : List Gp) (C : List Cf) (vg vc : Value) (o : Nat) (b : Int) (w : World) (h1 : Fl 5 Gp.cs w vg G) (h2 : Fl 4 Cf.cs w vc C) (lC : C.length ≤ 4398046511000) (ho : o < G.length) :
  Calls Tryz.prog 122 #[.agg #[vg, vc], .int .i64 (o : Int), .int .i64 b] w fun e w' => e = .returned (.int .i64 (zCu G[o] C (o : Int) b)) ∧ Below w.heap.size w w' := by
 have hI := fun (W : World) (hW : Below w.heap.size w W) => refInter_any C vg vc (o : Int) b W (h2.below hW) lC
 obtain ⟨va, cg, rfl, kG⟩ := h1.any
 obtain ⟨g, of, rfl, hg, P⟩ := kG.resolve_left (by intro e; rw [e] at ho; simp at ho)
 have P3 : ∀ W : World, Below w.heap.size w W → W.cell? ⟨g, of + o * 5 + 3, none⟩ = some (.int .i64 G[o].amber) := fun W h => (h.cell (p := ⟨g, _, none⟩) hg).trans (P o ho 3 _ rfl)
 have t1 : (o : Int) < (G.length : Int) := by omega
 have t0 : (0 : Int) ≤ (o : Int) := by omega
 unfold zCu
 generalize zAu C (o : Int) b = A at *
 obtain ⟨An, Ab⟩ := A
 simp only at *
 generalize G[o].amber = am at *
 clear kG P h1 h2
 cases Ab with
 | false =>
   go_enter Tryz.func122, Tryz.ntmps122
   go_wp2_with (go_at_call 145; (with_reducible refine Calls.mono (hI _ (by exact zBz)) ?_); rintro e w1 ⟨rfl, hb1⟩; have hbM := zAa zBz (by simp) hb1; clear hb1)
   go_ret; exact ⟨by simp, hbM⟩
 | true =>
   by_cases h : am > An
   ·go_enter Tryz.func122, Tryz.ntmps122
    go_wp2_with (go_at_call 145; (with_reducible refine Calls.mono (hI _ (by exact zBz)) ?_); rintro e w1 ⟨rfl, hb1⟩; have B1 : Has w1 w.heap.size #[.slice (some ⟨g, of, none⟩) G.length cg, vc] := (Has.new w _ _ rfl).below hb1; have hbM := zAa zBz (by simp) hb1; have q3 := P3 _ hbM; obtain ⟨_, y1, _⟩ := id B1; clear hb1)
    go_ret; exact ⟨by first | rfl | exact zAt (if_pos h).symm | simp, hbM⟩
   ·go_enter Tryz.func122, Tryz.ntmps122
    go_wp2_with (go_at_call 145; (with_reducible refine Calls.mono (hI _ (by exact zBz)) ?_); rintro e w1 ⟨rfl, hb1⟩; have B1 : Has w1 w.heap.size #[.slice (some ⟨g, of, none⟩) G.length cg, vc] := (Has.new w _ _ rfl).below hb1; have hbM := zAa zBz (by simp) hb1; have q3 := P3 _ hbM; obtain ⟨_, y1, _⟩ := id B1; clear hb1)
    go_ret; exact ⟨by first | rfl | exact zAt (if_neg h).symm | simp, hbM⟩
theorem clashes2_any (n : Nat) (C : List Cf) (va : Option Addr) (cap : Nat) (vc : Value) (F T : Nat) (w : World) (hF : F < 18446744073709551616) (hT : T < 18446744073709551616) (hn : n ≤ 2932031007317) (h2 : Fl 4 Cf.cs w vc C) (lC : C.length ≤ 4398046511000) (ok : ∀ (i : Nat) (h : i < C.length), C[i].ok) :
  Calls Tryz.prog 98 #[.agg #[.slice va n cap, vc], .int .u64 (F : Int), .int .u64 (T : Int)] w fun e w' => e = .returned (.bool ((zBd n F C).2.2 || (zBd n T C).2.2)) ∧ Below w.heap.size w w' := by
 have h1 := fun (W : World) (hW : Below w.heap.size w W) => zGn n F C va cap vc W hF hn (h2.below hW) lC ok
 have h3 := fun (W : World) (hW : Below w.heap.size w W) => zGn n T C va cap vc W hT hn (h2.below hW) lC ok
 generalize zBd n F C = A at *
 generalize zBd n T C = B at *
 obtain ⟨a1, a2, a3⟩ := A
 obtain ⟨b1, b2, b3⟩ := B
 simp only at *
 cases a3 <;> cases b3
 all_goals
  go_enter Tryz.func98, Tryz.ntmps98
  go_wp2_with (first
   | (go_at_call 121; (with_reducible refine Calls.mono (h1 _ (by exact zBz)) ?_); rintro e w1 ⟨rfl, hb1⟩; have B1 : Has w1 w.heap.size #[.slice va n cap, vc] := (Has.new w _ _ rfl).below hb1; have hbM := zAa zBz (by simp) hb1; obtain ⟨_, y1, _⟩ := id B1; clear hb1)
   | (go_at_call 121; (with_reducible refine Calls.mono (h3 _ (by exact hbM)) ?_); rintro e w2 ⟨rfl, hb2⟩; have hbK := zAa hbM hbM.size hb2; clear hb2))
  go_ret; exact ⟨rfl, hbK⟩
def wF (C : List Cf) (F T : Nat) (all : Bool) (g : Int) : List Gp → Nat → Int → Int
 | [], _, w => w
 | x :: xs, o, w => wF C F T all g xs (o + 1) (if (all || zBw F T o) = true then (if w < zCu x C (o : Int) g then zCu x C (o : Int) g else w) else w)
theorem wF_step (C : List Cf) (F T : Nat) (all : Bool) (g : Int) (G : List Gp) (o : Nat) (w : Int) (h : o < G.length) : wF C F T all g (G.drop o) o w = wF C F T all g (G.drop (o + 1)) (o + 1) (if (all || zBw F T o) = true then (if w < zCu G[o] C (o : Int) g then zCu G[o] C (o : Int) g else w) else w) := by
 rw [List.drop_eq_getElem_cons h]; rfl
theorem wF_end (C : List Cf) (F T : Nat) (all : Bool) (g : Int) (G : List Gp) (o : Nat) (w : Int) (h : G.length ≤ o) : wF C F T all g (G.drop o) o w = w := by
 rw [List.drop_eq_nil_of_le h]; rfl
def atV (G : List Gp) (C : List Cf) (F T : Nat) (all : Bool) (x : Gp) (k : Nat) : Int := if zBw T F k = true then 1 + wF C F T all (k : Int) G 0 0 + x.lead else if zBw F T k = true then 1 + x.amber else 0
def mvF (G : List Gp) (C : List Cf) (F T : Nat) (all : Bool) : List Gp → Nat → Int → Int
 | [], _, n => n
 | x :: xs, k, n => mvF G C F T all xs (k + 1) (if n < atV G C F T all x k then atV G C F T all x k else n)
theorem mvF_step (G : List Gp) (C : List Cf) (F T : Nat) (all : Bool) (k : Nat) (n : Int) (h : k < G.length) : mvF G C F T all (G.drop k) k n = mvF G C F T all (G.drop (k + 1)) (k + 1) (if n < atV G C F T all G[k] k then atV G C F T all G[k] k else n) := by
 rw [List.drop_eq_getElem_cons h]; rfl
theorem mvF_end (G : List Gp) (C : List Cf) (F T : Nat) (all : Bool) (k : Nat) (n : Int) (h : G.length ≤ k) : mvF G C F T all (G.drop k) k n = n := by
 rw [List.drop_eq_nil_of_le h]; rfl
theorem move_any (G : List Gp) (C : List Cf) (vg vc : Value) (F T : Nat) (all : Bool) (w : World) (hF : F < 18446744073709551616) (hT : T < 18446744073709551616) (h1 : Fl 5 Gp.cs w vg G) (h2 : Fl 4 Cf.cs w vc C) (lG : G.length ≤ 2932031007317) (lC : C.length ≤ 4398046511000) (gr : zBg G C = true) :
  Calls Tryz.prog 99 #[.agg #[vg, vc], .int .u64 (F : Int), .int .u64 (T : Int), .bool all] w fun e w' => e = .returned (.int .i64 (mvF G C F T all G 0 0)) ∧ Below w.heap.size w w' := by
 have hWt := fun (o : Nat) (b : Int) (ho : o < G.length) (W : World) (hW : Below w.heap.size w W) => wait_any G C vg vc o b W (h1.below hW) (h2.below hW) lC ho
 have hWi := fun (o : Nat) (b : Int) (ho : o < G.length) => wait_in gr o ho (o : Int) b
 have mins := fun k hk => grid_min gr k hk
 obtain ⟨va, cg, rfl, kG⟩ := h1.any
 clear h1 h2 gr
 generalize hA : mvF G C F T all G 0 0 = A
 have hb0 : Below w.heap.size w (w.alloc (.cells #[.slice va G.length cg, vc] 25)) := zBz
 have B0 : Has (w.alloc (.cells #[.slice va G.length cg, vc] 25)) w.heap.size #[.slice va G.length cg, vc] := Has.new _ _ _ rfl
 go_enter Tryz.func99, Tryz.ntmps99
 go_wp2
 generalize (w.alloc (.cells #[.slice va G.length cg, vc] 25)) = W0 at *
 go_loopw [9, 10] (fun tn tk wr => ∃ (k : Nat) (n : Int), k ≤ G.length ∧ tk = .int .i64 (k : Int) ∧ tn = .int .i64 n ∧ Hid (mvF G C F T all (G.drop k) k n = A) ∧ Hid (Has wr w.heap.size #[.slice va G.length cg, vc]) ∧ Hid (Below w.heap.size w wr)) (fun _ tk _ => G.length - (intOf tk).toNat)
 case atStart => exact ⟨0, 0, by omega, rfl, rfl, hA, B0, hb0⟩
 case round =>
  clear B0 hb0 hA; obtain ⟨k, n, hkl, rfl, rfl, hs, B, hb⟩ := hrel; obtain ⟨_, b1, _⟩ := id B.out
  by_cases hlt : k < G.length
  ·obtain ⟨g, of, rfl, hg, P⟩ := kG.resolve_left (by intro e; rw [e] at hlt; simp at hlt)
   have P3 : ∀ W : World, Below w.heap.size w W → W.cell? ⟨g, of + k * 5 + 3, none⟩ = some (.int .i64 G[k].amber) := fun W h => (h.cell (p := ⟨g, _, none⟩) hg).trans (P k hlt 3 _ rfl)
   have P4 : ∀ W : World, Below w.heap.size w W → W.cell? ⟨g, of + k * 5 + 4, none⟩ = some (.int .i64 G[k].lead) := fun W h => (h.cell (p := ⟨g, _, none⟩) hg).trans (P k hlt 4 _ rfl)
   have p3 := P3 _ hb.out; have hs' := hs.out; rw [mvF_step G C F T all k n hlt] at hs'; have mn := mins k hlt; have t1 : (k : Int) < (G.length : Int) := by omega
   have t0 : (0 : Int) ≤ (k : Int) := by omega
   have t2 : k + 1 ≤ G.length := hlt; have hH1 := fun (W : World) => zDc F (k : Int) W hF (by omega)
   have hH2 := fun (W : World) => zDc T (k : Int) W hT (by omega)
   clear P kG hs mins; unfold atV at hs'; generalize G[k].amber = am at *; generalize G[k].lead = le at *; have wa : IntKind.i64.wrap (1 + am) = 1 + am := zDp _ (by omega)
   cases ef : hasN F (k : Int) with
   | true =>
     rw [ef] at hH1
     cases et : hasN T (k : Int) with
     | true =>
       rw [et] at hH2; have e1 : zBw F T k = false := by simp [zBw, ef, et]
       have e2 : zBw T F k = false := by simp [zBw, ef, et]
       have hs2 : Hid (mvF G C F T all (G.drop (k + 1)) (k + 1) (if n < 0 then 0 else n) = A) := by show _ = _; rw [← hs', e1, e2]; simp
       rw [mxI] at hs2; clear hs' e1 e2 ef et hWt hWi P3 P4
       go_wp2_with (first | (go_at_call 73; (with_reducible refine Calls.mono (hH1 _) ?_); rintro e w2 ⟨rfl, rfl⟩) | (go_at_call 73; (with_reducible refine Calls.mono (hH2 _) ?_); rintro e w2 ⟨rfl, rfl⟩))
       go_roundw
       case rel => exact ⟨k + 1, _, by omega, by go_num, rfl, hs2, B, hb⟩
       case measure => simp [intOf]; omega
     | false =>
       rw [et] at hH2; have e1 : zBw F T k = true := by simp [zBw, ef, et]
       have e2 : zBw T F k = false := by simp [zBw, ef, et]
       have hs2 : Hid (mvF G C F T all (G.drop (k + 1)) (k + 1) (if n < 1 + am then 1 + am else n) = A) := by show _ = _; rw [← hs', e1, e2]; simp
       rw [mxI] at hs2; clear hs' e1 e2 ef et hWt hWi P3 P4
       go_wp2_with (first | (go_at_call 73; (with_reducible refine Calls.mono (hH1 _) ?_); rintro e w2 ⟨rfl, rfl⟩) | (go_at_call 73; (with_reducible refine Calls.mono (hH2 _) ?_); rintro e w2 ⟨rfl, rfl⟩))
       go_roundw
       case rel => exact ⟨k + 1, _, by omega, by go_num, rfl, hs2, B, hb⟩
       case measure => simp [intOf]; omega
   | false =>
     rw [ef] at hH1
     cases et : hasN T (k : Int) with
     | false =>
       rw [et] at hH2; have e1 : zBw F T k = false := by simp [zBw, ef]
       have e2 : zBw T F k = false := by simp [zBw, et]
       have hs2 : Hid (mvF G C F T all (G.drop (k + 1)) (k + 1) (if n < 0 then 0 else n) = A) := by show _ = _; rw [← hs', e1, e2]; simp
       rw [mxI] at hs2; clear hs' e1 e2 ef et hWt hWi P3 P4
       go_wp2_with (first | (go_at_call 73; (with_reducible refine Calls.mono (hH1 _) ?_); rintro e w2 ⟨rfl, rfl⟩) | (go_at_call 73; (with_reducible refine Calls.mono (hH2 _) ?_); rintro e w2 ⟨rfl, rfl⟩))
       go_roundw
       case rel => exact ⟨k + 1, _, by omega, by go_num, rfl, hs2, B, hb⟩
       case measure => simp [intOf]; omega
     | true =>
       rw [et] at hH2; have e1 : zBw F T k = false := by simp [zBw, ef]
       have e2 : zBw T F k = true := by simp [zBw, ef, et]
       generalize hW : wF C F T all (k : Int) G 0 0 = Wf; have hs2 : Hid (mvF G C F T all (G.drop (k + 1)) (k + 1) (if n < 1 + Wf + le then 1 + Wf + le else n) = A) := by show _ = _; rw [← hs', e2, ← hW]; simp
       rw [mxI] at hs2; clear hs' e1 e2 ef et P3
       go_wp2_with (first | (go_at_call 73; (with_reducible refine Calls.mono (hH1 _) ?_); rintro e w2 ⟨rfl, rfl⟩) | (go_at_call 73; (with_reducible refine Calls.mono (hH2 _) ?_); rintro e w2 ⟨rfl, rfl⟩))
       go_loopw [14, 15] (fun tw tq wx => ∃ (o : Nat) (v : Int), o ≤ G.length ∧ tq = .int .i64 (o : Int) ∧ tw = .int .i64 v ∧ (0 ≤ v ∧ v ≤ 3600) ∧ Hid (wF C F T all (k : Int) (G.drop o) o v = Wf) ∧ Hid (Has wx w.heap.size #[.slice (some ⟨g, of, none⟩) G.length cg, vc]) ∧ Hid (Below w.heap.size w wx)) (fun _ tq _ => G.length - (intOf tq).toNat)
       case atStart => exact ⟨0, 0, by omega, rfl, rfl, by omega, hW, B, hb⟩
       case round =>
        clear hW b1 p3 hH1 hH2 B hb; obtain ⟨o, v, hol, rfl, rfl, hv, hw, B, hb⟩ := hrel; obtain ⟨_, b1, _⟩ := id B.out
        by_cases hlo : o < G.length
        ·have hH1 := fun (W : World) => zDc F (o : Int) W hF (by omega)
         have hH2 := fun (W : World) => zDc T (o : Int) W hT (by omega)
         have hw' := hw.out; rw [wF_step C F T all (k : Int) G o v hlo] at hw'; have hq := fun (W : World) (h : Below w.heap.size w W) => hWt o (k : Int) hlo W h
         have hr := hWi o (k : Int) hlo; have s1 : (o : Int) < (G.length : Int) := by omega
         have s0 : (0 : Int) ≤ (o : Int) := by omega
         have s2 : o + 1 ≤ G.length := hlo; clear hw hWt hWi P4; generalize zCu G[o] C (o : Int) (k : Int) = u at *
         cases ef : hasN F (o : Int) with
         | true =>
           rw [ef] at hH1
           cases et : hasN T (o : Int) with
           | true =>
             rw [et] at hH2; have el : zBw F T o = false := by simp [zBw, ef, et]
             clear ef et
             cases all with
             | true =>
               have hw2 : Hid (wF C F T true (k : Int) (G.drop (o + 1)) (o + 1) (if v < u then u else v) = Wf) := by show _ = _; rw [← hw', el]; simp
               rw [mxI] at hw2; have hv2 : 0 ≤ (if v < u then u else v) ∧ (if v < u then u else v) ≤ 3600 := by split <;> omega
               rw [mxI] at hv2; clear hw' el
               go_wp2_with (first | (go_at_call 73; (with_reducible refine Calls.mono (hH1 _) ?_); rintro e w2 ⟨rfl, rfl⟩) | (go_at_call 73; (with_reducible refine Calls.mono (hH2 _) ?_); rintro e w2 ⟨rfl, rfl⟩) | (go_at_call 122; (with_reducible refine Calls.mono (hq _ hb.out) ?_); rintro e w3 ⟨rfl, hb3⟩; have B3 := B.out.below hb3; have hb4 := zAa hb.out hb.out.size hb3; clear hb3))
               go_roundw
               case rel => exact ⟨o + 1, _, by omega, by go_num, rfl, hv2, hw2, B3, hb4⟩
               case measure => simp [intOf]; omega
             | false =>
               have hw2 : Hid (wF C F T false (k : Int) (G.drop (o + 1)) (o + 1) (v) = Wf) := by show _ = _; rw [← hw', el]; simp
               have hv2 : 0 ≤ (v) ∧ (v) ≤ 3600 := by omega
               clear hw' el
               go_wp2_with (first | (go_at_call 73; (with_reducible refine Calls.mono (hH1 _) ?_); rintro e w2 ⟨rfl, rfl⟩) | (go_at_call 73; (with_reducible refine Calls.mono (hH2 _) ?_); rintro e w2 ⟨rfl, rfl⟩) | (go_at_call 122; (with_reducible refine Calls.mono (hq _ hb.out) ?_); rintro e w3 ⟨rfl, hb3⟩; have B3 := B.out.below hb3; have hb4 := zAa hb.out hb.out.size hb3; clear hb3))
               go_roundw
               case rel => exact ⟨o + 1, _, by omega, by go_num, rfl, hv2, hw2, B, hb⟩
               case measure => simp [intOf]; omega
           | false =>
             rw [et] at hH2; have el : zBw F T o = true := by simp [zBw, ef, et]
             clear ef et
             cases all with
             | true =>
               have hw2 : Hid (wF C F T true (k : Int) (G.drop (o + 1)) (o + 1) (if v < u then u else v) = Wf) := by show _ = _; rw [← hw', el]; simp
               rw [mxI] at hw2; have hv2 : 0 ≤ (if v < u then u else v) ∧ (if v < u then u else v) ≤ 3600 := by split <;> omega
               rw [mxI] at hv2; clear hw' el
               go_wp2_with (first | (go_at_call 73; (with_reducible refine Calls.mono (hH1 _) ?_); rintro e w2 ⟨rfl, rfl⟩) | (go_at_call 73; (with_reducible refine Calls.mono (hH2 _) ?_); rintro e w2 ⟨rfl, rfl⟩) | (go_at_call 122; (with_reducible refine Calls.mono (hq _ hb.out) ?_); rintro e w3 ⟨rfl, hb3⟩; have B3 := B.out.below hb3; have hb4 := zAa hb.out hb.out.size hb3; clear hb3))
               go_roundw
               case rel => exact ⟨o + 1, _, by omega, by go_num, rfl, hv2, hw2, B3, hb4⟩
               case measure => simp [intOf]; omega
             | false =>
               have hw2 : Hid (wF C F T false (k : Int) (G.drop (o + 1)) (o + 1) (if v < u then u else v) = Wf) := by show _ = _; rw [← hw', el]; simp
               rw [mxI] at hw2; have hv2 : 0 ≤ (if v < u then u else v) ∧ (if v < u then u else v) ≤ 3600 := by split <;> omega
               rw [mxI] at hv2; clear hw' el
               go_wp2_with (first | (go_at_call 73; (with_reducible refine Calls.mono (hH1 _) ?_); rintro e w2 ⟨rfl, rfl⟩) | (go_at_call 73; (with_reducible refine Calls.mono (hH2 _) ?_); rintro e w2 ⟨rfl, rfl⟩) | (go_at_call 122; (with_reducible refine Calls.mono (hq _ hb.out) ?_); rintro e w3 ⟨rfl, hb3⟩; have B3 := B.out.below hb3; have hb4 := zAa hb.out hb.out.size hb3; clear hb3))
               go_roundw
               case rel => exact ⟨o + 1, _, by omega, by go_num, rfl, hv2, hw2, B3, hb4⟩
               case measure => simp [intOf]; omega
         | false =>
           rw [ef] at hH1; have el : zBw F T o = false := by simp [zBw, ef]
           clear ef hH2
           cases all with
           | true =>
             have hw2 : Hid (wF C F T true (k : Int) (G.drop (o + 1)) (o + 1) (if v < u then u else v) = Wf) := by show _ = _; rw [← hw', el]; simp
             rw [mxI] at hw2; have hv2 : 0 ≤ (if v < u then u else v) ∧ (if v < u then u else v) ≤ 3600 := by split <;> omega
             rw [mxI] at hv2; clear hw' el
             go_wp2_with (first | (go_at_call 73; (with_reducible refine Calls.mono (hH1 _) ?_); rintro e w2 ⟨rfl, rfl⟩) | (go_at_call 73; (with_reducible refine Calls.mono (hH2 _) ?_); rintro e w2 ⟨rfl, rfl⟩) | (go_at_call 122; (with_reducible refine Calls.mono (hq _ hb.out) ?_); rintro e w3 ⟨rfl, hb3⟩; have B3 := B.out.below hb3; have hb4 := zAa hb.out hb.out.size hb3; clear hb3))
             go_roundw
             case rel => exact ⟨o + 1, _, by omega, by go_num, rfl, hv2, hw2, B3, hb4⟩
             case measure => simp [intOf]; omega
           | false =>
             have hw2 : Hid (wF C F T false (k : Int) (G.drop (o + 1)) (o + 1) (v) = Wf) := by show _ = _; rw [← hw', el]; simp
             have hv2 : 0 ≤ (v) ∧ (v) ≤ 3600 := by omega
             clear hw' el
             go_wp2_with (first | (go_at_call 73; (with_reducible refine Calls.mono (hH1 _) ?_); rintro e w2 ⟨rfl, rfl⟩) | (go_at_call 73; (with_reducible refine Calls.mono (hH2 _) ?_); rintro e w2 ⟨rfl, rfl⟩) | (go_at_call 122; (with_reducible refine Calls.mono (hq _ hb.out) ?_); rintro e w3 ⟨rfl, hb3⟩; have B3 := B.out.below hb3; have hb4 := zAa hb.out hb.out.size hb3; clear hb3))
             go_roundw
             case rel => exact ⟨o + 1, _, by omega, by go_num, rfl, hv2, hw2, B, hb⟩
             case measure => simp [intOf]; omega
        ·have s1 : ¬ (o : Int) < (G.length : Int) := by omega
         have hv' : v = Wf := by rw [← hw.out]; exact (wF_end C F T all (k : Int) G o v (by omega)).symm
         subst hv'; have p4 := P4 _ hb.out; have w1 : IntKind.i64.wrap (1 + v) = 1 + v := zDp _ (by omega); have w2 : IntKind.i64.wrap (1 + v + le) = 1 + v + le := zDp _ (by omega); clear hw hWt hWi P4; go_wp2; go_roundw
         case rel => exact ⟨k + 1, _, by omega, by go_num, rfl, hs2, B, hb⟩
         case measure => simp [intOf]; omega
  ·have t1 : ¬ (k : Int) < (G.length : Int) := by omega
   have hA' : n = A := by rw [← hs.out]; exact (mvF_end G C F T all k n (by omega)).symm
   subst hA'; clear hs kG mins hWt hWi; go_wp2; go_ret; exact ⟨rfl, hb.out⟩
end Go.Proofs.YtjfieclmagbfbaaGreatDoor
