import Derived.Test.YtkeoebllblbkgaaGreatDoorTpB
import Derived.Test.YtkeoebllblbkgaaGreatDoorShelf
import Derived.WideShapes
import Derived.Lib.AppendIntMem
import Derived.Laws.IdiomStrings
import Derived.LaidMore
import Derived.Lib.LaidTab
import Derived.WalkSmall
import Derived.ProofKit
namespace Go.Proofs.YtkeoebllblbkgaaGreatDoor
open Go.RowKit
set_option linter.unusedVariables false
set_option linter.unusedSimpArgs false

def bs (l : List UInt8) : ByteArray := ⟨l.toArray⟩
theorem bs_size (l : List UInt8) : (bs l).size = l.length := by show l.toArray.size = _; simp
theorem bs_app (l m : List UInt8) : bs l ++ bs m = bs (l ++ m) := by apply WideShapes.bytes_inj; unfold bs; simp
/-- A digit's byte. -/
def dg (v : Nat) : UInt8 := UInt8.ofNat (48 + v % 10)
/-- A number's n last digits. -/
def pdF : Nat → Nat → List UInt8
  | 0, _ => []
  | n + 1, v => pdF n (v / 10) ++ [dg v]
theorem dg_nat (v : Nat) : (dg v).toNat = 48 + v % 10 := UInt8.toNat_ofNat_of_lt' (by show _ < 256; omega)
theorem conv_one (m : Nat) (w : World) : (convert 51 9 (.slice (some ⟨w.heap.size, 0, none⟩) 1 1)).run Tryz.prog (w.alloc (.cells #[.int .u8 (48 + (m : Int) % 10)] 5)) =
    .ok (.string (bs [dg m])) (w.alloc (.cells #[.int .u8 (48 + (m : Int) % 10)] 5)) := by
  refine run_convert_bytes_back (w.alloc (.cells #[.int .u8 (48 + (m : Int) % 10)] 5)) 51 9 5 ⟨w.heap.size, 0, none⟩ 1 [dg m] und51 und5 und9 ?_
  intro j hj
  have hj0 : j = 0 := by simp at hj; omega
  subst hj0
  rw [show (⟨w.heap.size, 0, none⟩ : Addr).add 0 = ⟨w.heap.size, 0, none⟩ from rfl, World.cell?_alloc_new]
  show some _ = some (Value.int .u8 ((dg m).toNat : Int))
  rw [dg_nat]
  congr 2
set_option maxRecDepth 100000 in
set_option maxHeartbeats 4000000 in
theorem pad_any (v n : Nat) (w : World) (hv : v ≤ 1000000) (hn : n ≤ 10) : Calls Tryz.prog 43 #[.int .i64 (v : Int), .int .i64 (n : Int)] w fun e w' => e = .returned (.string (bs (pdF n v))) ∧ Below w.heap.size w w' := by
  go_enter Tryz.func43, Tryz.ntmps43
  go_wp2_with fail
  go_loopg [0, 1, 5] n (fun gk s0 s1 s5 wr => ∃ (u : Nat) (l : List UInt8), s0 = .int .i64 (u : Int) ∧ s1 = .int .i64 (gk : Int) ∧ s5 = .string (bs l) ∧ u ≤ 1000000 ∧ gk ≤ 10 ∧ l.length ≤ 20 - gk ∧ Hid (pdF gk u ++ l = pdF n v) ∧ Hid (Below w.heap.size w wr))
  case atStart => exact ⟨v, [], rfl, rfl, rfl, hv, hn, (by show 0 ≤ _; omega), (by show _ = _; simp), Below.refl _ _⟩
  case round =>
    obtain ⟨u, l, rfl, rfl, rfl, hu, hg, hll, hE, hb⟩ := hrel
    have t0 : (0 : Int) ≤ (gk : Int) := by omega
    have u0 : (0 : Int) ≤ (u : Int) := by omega
    have u1 : (u : Int) ≤ 1000000 := by omega
    by_cases hgk : 0 < gk
    · have t1 : (0 : Int) < (gk : Int) := by omega
      have hcv := fun W => conv_one u W
      have hsz : (bs l).size ≤ 20 := by rw [bs_size]; omega
      have hs1 : (bs [dg u]).size = 1 := by rw [bs_size]; rfl
      obtain ⟨g1, rfl⟩ : ∃ z, gk = z + 1 := ⟨gk - 1, by omega⟩
      have hE2 : Hid (pdF g1 (u / 10) ++ (dg u :: l) = pdF n v) := by show _ = _; rw [← hE.out]; show _ = (pdF g1 (u / 10) ++ [dg u]) ++ l; simp
      have hap : Hid (bs [dg u] ++ bs l = bs (dg u :: l)) := by show _ = _; rw [bs_app]; rfl
      generalize bs [dg u] = y at *
      go_wp2_with fail
      go_roundg g1
      case measure => go_light; omega
      case rel => exact ⟨u / 10, dg u :: l, by go_num, by go_num, (by rw [hap.out]), by omega, by omega, (by show l.length + 1 ≤ _; omega), hE2, (hb.out.alloc hb.out.size _)⟩
    · obtain rfl : gk = 0 := by omega
      go_wp2_with fail
      go_ret
      refine ⟨?_, hb.out⟩
      rw [← hE.out]
      rfl
theorem decDigits_step (u : Nat) (h : 10 ≤ u) : Lib.decDigits u = Lib.decDigits (u / 10) ++ [dg u] := by
  rw [Lib.decDigits.eq_def u, dif_neg (by omega)]; rfl
theorem decDigits_small (u : Nat) (h : u < 10) : Lib.decDigits u = [dg u] := by
  rw [Lib.decDigits.eq_def u, dif_pos h]
  unfold dg
  rw [Nat.mod_eq_of_lt h]
theorem dd2 (u : Nat) (h : 10 ≤ u) (h1 : u < 100) : Lib.decDigits u = [dg (u / 10), dg u] := by
  rw [decDigits_step u h, decDigits_small (u / 10) (by omega)]; rfl
theorem dd3 (u : Nat) (h : 100 ≤ u) (h1 : u < 1000) : Lib.decDigits u = pdF 3 u := by
  rw [decDigits_step u (by omega), dd2 (u / 10) (by omega) (by omega)]; rfl
theorem dd4 (u : Nat) (h : 1000 ≤ u) (h1 : u < 10000) : Lib.decDigits u = pdF 4 u := by
  rw [decDigits_step u (by omega), dd3 (u / 10) (by omega) (by omega)]; rfl
theorem itoa_nat (n : Nat) : Lib.itoa (n : Int) = Lib.decDigits n := by
  unfold Lib.itoa
  rw [if_neg (by omega)]
  simp
theorem itoa_neg (n : Nat) (h : 0 < n) : Lib.itoa (-(n : Int)) = 45 :: Lib.decDigits n := by
  unfold Lib.itoa
  rw [if_pos (by omega)]
  simp
/-- A number's text. -/
def ti (n : Int) : ByteArray := bs (Lib.itoa n)
/-- Zeros in front taken off. -/
def st : List UInt8 → List UInt8
  | a :: b :: r => if a = 48 then st (b :: r) else a :: b :: r
  | l => l
theorem dg_zero (v : Nat) : dg v = 48 ↔ v % 10 = 0 := by
  constructor
  · intro h
    have := congrArg UInt8.toNat h
    rw [dg_nat] at this
    have e : (48 : UInt8).toNat = 48 := rfl
    omega
  · intro h
    unfold dg; rw [h]; rfl
theorem st_pad (n : Nat) (h : n < 1000) : st (pdF 3 n) = Lib.itoa (n : Int) := by
  rw [itoa_nat]
  have e : pdF 3 n = [dg (n / 10 / 10), dg (n / 10), dg n] := rfl
  by_cases h1 : n < 10
  · rw [decDigits_small n h1, e]
    have z1 : dg (n / 10 / 10) = 48 := (dg_zero _).2 (by omega)
    have z2 : dg (n / 10) = 48 := (dg_zero _).2 (by omega)
    rw [z1, z2]; simp [st]
  · by_cases h2 : n < 100
    · rw [dd2 n (by omega) h2, e]
      have z1 : dg (n / 10 / 10) = 48 := (dg_zero _).2 (by omega)
      have z2 : dg (n / 10) ≠ 48 := fun x => by have := (dg_zero _).1 x; omega
      rw [z1]; simp [st, z2]
    · rw [dd3 n (by omega) h, e]
      have z1 : dg (n / 10 / 10) ≠ 48 := fun x => by have := (dg_zero _).1 x; omega
      simp [st, z1]
/-- The powers stand. -/
theorem gPow : Tryz.prog.globalNamed "internal/strconv.uint64pow10" = some 2 := by kernel_rfl
def Pw (w : World) : Prop := 2 < w.heap.size ∧ Lib.TabIs Tryz.prog w "internal/strconv.uint64pow10" .u64 Lib.pow10Tab
theorem Pw.below {w w' : World} (h : Pw w) (hb : Below w.heap.size w w') : Pw w' :=
  ⟨Nat.lt_of_lt_of_le h.1 hb.size, var?_below hb gPow h.1 h.2⟩
theorem itoa_any (n : Int) (w : World) (h0 : -9223372036854775808 ≤ n) (h1 : n ≤ 9223372036854775807) (hP : Pw w) :
    Calls Tryz.prog 41 #[.int .i64 n] w fun e w' => e = .returned (.string (ti n)) ∧ Below w.heap.size w w' := by
  refine (Tryz.strconv_Itoa n h0 h1 w hP.2).mono ?_
  rintro e w' ⟨he, k, os, rfl⟩
  exact ⟨he, Lib.below_grow _ _ (Nat.le_refl _) _ _⟩
theorem ix_first (c : UInt8) (r : List UInt8) (w : World) : (Instr.index 9 (.string (bs (c :: r))) (.int .i64 0)).run Tryz.prog w = .ok (.int .u8 (c.toNat : Int)) w := by
  rw [run_index_string w 9 (bs (c :: r)) .i64 0 und9, dif_pos ⟨by omega, by rw [bs_size]; simp⟩]
  rfl
theorem sl_rest (c : UInt8) (r : List UInt8) (w : World) : (Instr.slice 9 (.string (bs (c :: r))) (some (.int .i64 1)) none none).run Tryz.prog w = .ok (.string (bs r)) w := by
  have h := run_slice_string_from_if (P := Tryz.prog) (w := w) 9 (bs (c :: r)) .i64 1 und9
  rw [h, if_pos (by rw [bs_size]; simp; omega)]
  have e : (bs (c :: r)).extract (1 : Int).toNat (bs (c :: r)).size = bs r := by
    apply WideShapes.bytes_inj
    rw [bs_size]
    unfold bs
    simp
  rw [e]
set_option maxRecDepth 100000 in
set_option maxHeartbeats 4000000 in
theorem plain_any (n : Nat) (w : World) (hn : n < 1000) : Calls Tryz.prog 18 #[.int .i64 (n : Int)] w fun e w' => e = .returned (.string (ti n)) ∧ Below w.heap.size w w' := by
  have hp : ∀ W : World, Calls Tryz.prog 43 #[.int .i64 (n : Int), .int .i64 3] W fun e w' => e = .returned (.string (bs (pdF 3 n))) ∧ Below W.heap.size W w' := fun W => pad_any n 3 W (by omega) (by omega)
  go_enter Tryz.func18, Tryz.ntmps18
  go_wp2_with (go_at_call 43; (with_reducible refine (hp _).mono ?_); rintro e w1 ⟨rfl, hb1⟩)
  go_loopg [3] 3 (fun gk s3 wr => ∃ l : List UInt8, s3 = .string (bs l) ∧ l.length ≤ gk ∧ Hid (st l = Lib.itoa (n : Int)) ∧ wr = w1)
  case atStart => exact ⟨_, rfl, (by show 3 ≤ 3; omega), st_pad n hn, rfl⟩
  case round =>
    obtain ⟨l, rfl, hl, hE, rfl⟩ := hrel
    match l, hl, hE with
    | [], hl, hE =>
      have z0 : (bs []).size = 0 := rfl
      go_wp2_with fail
      go_ret
      exact ⟨ret_str (congrArg bs hE.out), hb1⟩
    | [c], hl, hE =>
      have z0 : (bs [c]).size = 1 := rfl
      have hE2 : Hid (bs [c] = ti n) := congrArg bs hE.out
      generalize bs [c] = y at *
      go_wp2_with fail
      go_ret
      exact ⟨ret_str hE2.out, hb1⟩
    | c :: d :: r, hl, hE =>
      have hl' : r.length + 2 ≤ gk := hl
      have hix : ∀ W : World, (Instr.index 9 (.string (bs (c :: d :: r))) (.int .i64 0)).run Tryz.prog W = .ok (.int .u8 (c.toNat : Int)) W := fun W => ix_first c (d :: r) W
      have z0 : (bs (c :: d :: r)).size = r.length + 2 := bs_size _
      have z1 : (1 : Int) < ((r.length + 2 : Nat) : Int) := by omega
      have z3 : (1 : Int) < (r.length : Int) + 2 := by omega
      by_cases hc : c = 48
      · subst hc
        have hsl : ∀ W : World, (Instr.slice 9 (.string (bs (48 :: d :: r))) (some (.int .i64 1)) none none).run Tryz.prog W = .ok (.string (bs (d :: r))) W := fun W => sl_rest 48 (d :: r) W
        have hE2 : Hid (st (d :: r) = Lib.itoa (n : Int)) := by show _ = _; rw [← hE.out]; simp [st]
        have e48 : ((48 : UInt8).toNat : Int) = 48 := rfl
        generalize bs (48 :: d :: r) = y at *
        go_wp2_with fail
        go_roundg (gk - 1)
        case measure => go_light; omega
        case rel => exact ⟨d :: r, rfl, (by show r.length + 1 ≤ _; omega), hE2, rfl⟩
      · have hE2 : Hid (bs (c :: d :: r) = ti n) := by show _ = bs _; rw [← hE.out]; simp [st, hc]
        have hc2 : ((c.toNat : Int) == 48) = false := by
          have : c.toNat ≠ 48 := fun e => hc (by have := UInt8.ofNat_toNat (x := c); rw [← this, e]; rfl)
          simp; omega
        generalize bs (c :: d :: r) = y at *
        go_wp2_with fail
        go_ret
        exact ⟨ret_str hE2.out, hb1⟩
end Go.Proofs.YtkeoebllblbkgaaGreatDoor
