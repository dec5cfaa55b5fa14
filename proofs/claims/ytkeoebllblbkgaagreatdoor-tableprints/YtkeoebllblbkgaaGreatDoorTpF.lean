import Derived.Test.YtkeoebllblbkgaaGreatDoorTpD
import Derived.Test.YtkeoebllblbkgaaGreatDoorCaD
namespace Go.Proofs.YtkeoebllblbkgaaGreatDoor
open Go.RowKit
set_option linter.unusedVariables false
set_option linter.unusedSimpArgs false

/-- A minute of the day as a clock. -/
def ckF (m : Nat) : List UInt8 := pdF 2 (m / 60) ++ [58] ++ pdF 2 (m % 60)
theorem pd2 (v : Nat) : (pdF 2 v).length = 2 := rfl
theorem pd4 (v : Nat) : (pdF 4 v).length = 4 := rfl
theorem ck_len (m : Nat) : (ckF m).length = 5 := rfl
theorem ti100 (n : Nat) (h : n < 100) : ti (100 + (n : Int)) = bs (49 :: pdF 2 n) := by
  unfold ti
  rw [show (100 + (n : Int)) = ((100 + n : Nat) : Int) by omega, itoa_nat, dd3 (100 + n) (by omega) (by omega)]
  show bs [dg ((100 + n) / 10 / 10), dg ((100 + n) / 10), dg (100 + n)] = bs [49, dg (n / 10), dg n]
  have e1 : dg ((100 + n) / 10 / 10) = 49 := by unfold dg; rw [show (100 + n) / 10 / 10 % 10 = 1 by omega]; rfl
  have e2 : dg ((100 + n) / 10) = dg (n / 10) := by unfold dg; rw [show (100 + n) / 10 % 10 = n / 10 % 10 by omega]
  have e3 : dg (100 + n) = dg n := by unfold dg; rw [show (100 + n) % 10 = n % 10 by omega]
  rw [e1, e2, e3]
set_option maxRecDepth 100000 in
set_option maxHeartbeats 4000000 in
theorem two_any (n : Nat) (w : World) (h : n < 100) (hP : Pw w) : Calls Tryz.prog 40 #[.int .i64 (n : Int)] w fun e w' => e = .returned (.string (bs (pdF 2 n))) ∧ Below w.heap.size w w' := by
  have hi := itoa_any (100 + (n : Int)) w (by omega) (by omega) hP
  rw [ti100 n h] at hi
  have hsl : ∀ W : World, (Instr.slice 9 (.string (bs (49 :: pdF 2 n))) (some (.int .i64 1)) none none).run Tryz.prog W = .ok (.string (bs (pdF 2 n))) W := fun W => sl_rest 49 (pdF 2 n) W
  have n0 : (0 : Int) ≤ (n : Int) := by omega
  have n1 : (n : Int) < 100 := by omega
  generalize bs (49 :: pdF 2 n) = y at *
  go_enter Tryz.func40, Tryz.ntmps40
  go_wp2_with (go_at_call 41; (with_reducible refine hi.mono ?_); rintro e w1 ⟨rfl, hb1⟩)
  go_ret
  exact ⟨rfl, hb1⟩
theorem ck_bs (m : Nat) : (bs (pdF 2 (m / 60)) ++ (⟨#[58]⟩ : ByteArray)) ++ bs (pdF 2 (m % 60)) = bs (ckF m) := by
  rw [show (⟨#[58]⟩ : ByteArray) = bs [58] from rfl, bs_app, bs_app]; rfl
set_option maxRecDepth 100000 in
set_option maxHeartbeats 4000000 in
theorem clockText_any (m : Nat) (w : World) (h : m ≤ 1439) (hP : Pw w) : Calls Tryz.prog 11 #[.int .i64 (m : Int)] w fun e w' => e = .returned (.string (bs (ckF m))) ∧ Below w.heap.size w w' := by
  have h1 : ∀ W, Pw W → Calls Tryz.prog 40 #[.int .i64 ((m : Int) / 60)] W fun e w' => e = .returned (.string (bs (pdF 2 (m / 60)))) ∧ Below W.heap.size W w' := fun W hW => by have := two_any (m / 60) W (by omega) hW; simpa using this
  have h2 : ∀ W, Pw W → Calls Tryz.prog 40 #[.int .i64 ((m : Int) % 60)] W fun e w' => e = .returned (.string (bs (pdF 2 (m % 60)))) ∧ Below W.heap.size W w' := fun W hW => by have := two_any (m % 60) W (by omega) hW; simpa using this
  have n0 : (0 : Int) ≤ (m : Int) := by omega
  have z1 : (bs (pdF 2 (m / 60))).size = 2 := by rw [bs_size]; rfl
  have z2 : (bs (pdF 2 (m % 60))).size = 2 := by rw [bs_size]; rfl
  have hE : Hid ((bs (pdF 2 (m / 60)) ++ (⟨#[58]⟩ : ByteArray)) ++ bs (pdF 2 (m % 60)) = bs (ckF m)) := ck_bs m
  generalize bs (pdF 2 (m / 60)) = x at *
  generalize bs (pdF 2 (m % 60)) = y at *
  go_enter Tryz.func11, Tryz.ntmps11
  go_wp2_with (first
    | (go_at_call 40; (with_reducible refine (h1 w hP).mono ?_); rintro e w1 ⟨rfl, hb1⟩)
    | (go_at_call 40; (with_reducible refine (h2 w1 (hP.below hb1)).mono ?_); rintro e w2 ⟨rfl, hb2⟩))
  go_ret
  exact ⟨ret_str hE.out, belT hb1 hb2⟩
set_option maxRecDepth 100000 in
set_option maxHeartbeats 4000000 in
theorem clocked_any (m : Nat) (w : World) (h : m ≤ 1439) : Calls Tryz.prog 17 #[.int .i64 (m : Int)] w fun e w' => e = .returned (.string (bs (ckF m))) ∧ Below w.heap.size w w' := by
  have h1 : ∀ W, Calls Tryz.prog 43 #[.int .i64 ((m : Int) / 60), .int .i64 2] W fun e w' => e = .returned (.string (bs (pdF 2 (m / 60)))) ∧ Below W.heap.size W w' := fun W => by have := pad_any (m / 60) 2 W (by omega) (by omega); simpa using this
  have h2 : ∀ W, Calls Tryz.prog 43 #[.int .i64 ((m : Int) % 60), .int .i64 2] W fun e w' => e = .returned (.string (bs (pdF 2 (m % 60)))) ∧ Below W.heap.size W w' := fun W => by have := pad_any (m % 60) 2 W (by omega) (by omega); simpa using this
  have n0 : (0 : Int) ≤ (m : Int) := by omega
  have z1 : (bs (pdF 2 (m / 60))).size = 2 := by rw [bs_size]; rfl
  have z2 : (bs (pdF 2 (m % 60))).size = 2 := by rw [bs_size]; rfl
  have hE : Hid ((bs (pdF 2 (m / 60)) ++ (⟨#[58]⟩ : ByteArray)) ++ bs (pdF 2 (m % 60)) = bs (ckF m)) := ck_bs m
  generalize bs (pdF 2 (m / 60)) = x at *
  generalize bs (pdF 2 (m % 60)) = y at *
  go_enter Tryz.func17, Tryz.ntmps17
  go_wp2_with (first
    | (go_at_call 43; (with_reducible refine (h1 w).mono ?_); rintro e w1 ⟨rfl, hb1⟩)
    | (go_at_call 43; (with_reducible refine (h2 w1).mono ?_); rintro e w2 ⟨rfl, hb2⟩))
  go_ret
  exact ⟨ret_str hE.out, belT hb1 hb2⟩
/-- A slot's words. -/
def slF (s : Int) : List UInt8 := if s = -1 then [102, 108, 97, 115, 104] else [115, 108, 111, 116, 32] ++ Lib.itoa s
set_option maxRecDepth 100000 in
set_option maxHeartbeats 4000000 in
theorem slotText_any (s : Int) (w : World) (h0 : -1 ≤ s) (h1 : s ≤ 7) (hP : Pw w) : Calls Tryz.prog 12 #[.int .i64 s] w fun e w' => e = .returned (.string (bs (slF s))) ∧ Below w.heap.size w w' := by
  by_cases hs : s = -1
  · subst hs
    go_enter Tryz.func12, Tryz.ntmps12
    go_wp2
    go_ret
    exact ⟨rfl, Below.refl _ _⟩
  · have hi := itoa_any s w (by omega) (by omega) hP
    have hE : Hid ((⟨#[115, 108, 111, 116, 32]⟩ : ByteArray) ++ ti s = bs (slF s)) := by
      show _ = _
      unfold slF
      rw [if_neg hs, show (⟨#[115, 108, 111, 116, 32]⟩ : ByteArray) = bs [115, 108, 111, 116, 32] from rfl]
      unfold ti
      rw [bs_app]
    have hz : (ti s).size ≤ 20 := by
      unfold ti
      rw [bs_size]
      obtain ⟨k, rfl⟩ : ∃ k : Nat, s = (k : Int) := ⟨s.toNat, by omega⟩
      rw [itoa_nat, decDigits_small k (by omega)]; show 1 ≤ 20; omega
    have hs' : (s == -1) = false := by simp; omega
    generalize ti s = y at *
    go_enter Tryz.func12, Tryz.ntmps12
    go_wp2_with (go_at_call 41; (with_reducible refine hi.mono ?_); rintro e w1 ⟨rfl, hb1⟩)
    go_ret
    exact ⟨ret_str hE.out, hb1⟩
theorem dd_len (u : Nat) (h : u < 1000) : (Lib.decDigits u).length ≤ 3 := by
  by_cases h1 : u < 10
  · rw [decDigits_small u h1]; show 1 ≤ 3; omega
  · by_cases h2 : u < 100
    · rw [dd2 u (by omega) h2]; show 2 ≤ 3; omega
    · rw [dd3 u (by omega) h]; show 3 ≤ 3; omega
theorem ti_len (n : Int) (h0 : -1000 < n) (h1 : n < 1000) : (ti n).size ≤ 4 := by
  unfold ti
  rw [bs_size]
  by_cases hn : n < 0
  · obtain ⟨k, rfl⟩ : ∃ k : Nat, n = -(k : Int) := ⟨(-n).toNat, by omega⟩
    rw [itoa_neg k (by omega), List.length_cons]
    have := dd_len k (by omega); omega
  · obtain ⟨k, rfl⟩ : ∃ k : Nat, n = (k : Int) := ⟨n.toNat, by omega⟩
    rw [itoa_nat]
    have := dd_len k (by omega); omega
/-- A shift's sign and minutes. -/
def puF (p : Int) : List UInt8 := if p < 0 then Lib.itoa p else 43 :: Lib.itoa p
theorem pu_neg (k : Nat) (h : 0 < k) : (⟨#[45]⟩ : ByteArray) ++ ti (k : Int) = bs (puF (-(k : Int))) := by
  unfold puF ti
  rw [if_pos (by omega), itoa_neg k h, itoa_nat, show (⟨#[45]⟩ : ByteArray) = bs [45] from rfl, bs_app]; rfl
theorem pu_pos (k : Nat) : (⟨#[43]⟩ : ByteArray) ++ ti (k : Int) = bs (puF (k : Int)) := by
  unfold puF ti
  rw [if_neg (by omega), show (⟨#[43]⟩ : ByteArray) = bs [43] from rfl, bs_app]; rfl
set_option maxRecDepth 100000 in
set_option maxHeartbeats 4000000 in
theorem plusText_any (p : Int) (w : World) (h0 : -720 ≤ p) (h1 : p ≤ 840) (hP : Pw w) : Calls Tryz.prog 15 #[.int .i64 p] w fun e w' => e = .returned (.string (bs (puF p))) ∧ Below w.heap.size w w' := by
  have hi := itoa_any p w (by omega) (by omega) hP
  have hz := ti_len p (by omega) (by omega)
  by_cases hs : p < 0
  · have hE : Hid (ti p = bs (puF p)) := by show _ = _; unfold puF ti; rw [if_pos hs]
    generalize ti p = y at *
    go_enter Tryz.func15, Tryz.ntmps15
    go_wp2_with (go_at_call 41; (with_reducible refine hi.mono ?_); rintro e w1 ⟨rfl, hb1⟩)
    go_ret
    exact ⟨ret_str hE.out, hb1⟩
  · have hE : Hid ((⟨#[43]⟩ : ByteArray) ++ ti p = bs (puF p)) := by
      obtain ⟨k, rfl⟩ : ∃ k : Nat, p = (k : Int) := ⟨p.toNat, by omega⟩
      exact pu_pos k
    generalize ti p = y at *
    go_enter Tryz.func15, Tryz.ntmps15
    go_wp2_with (go_at_call 41; (with_reducible refine hi.mono ?_); rintro e w1 ⟨rfl, hb1⟩)
    go_ret
    exact ⟨ret_str hE.out, hb1⟩
/-- A date's text. -/
def dtB (y k d : Nat) : List UInt8 := pdF 4 y ++ [45] ++ pdF 2 (k + 1) ++ [45] ++ pdF 2 d
theorem dt_ex (n : Int) (h0 : 0 ≤ n) (h1 : n ≤ 146096) (h : ∃ y k d, Dt n y k d) : ∃ (a b c : Nat), Dt n (a : Int) b (c : Int) := by
  obtain ⟨y, k, d, h⟩ := h
  exact ⟨y.toNat, k, d.toNat, by rw [Int.toNat_of_nonneg (by have := h.y0; omega), Int.toNat_of_nonneg (by have := h.d0; omega)]; exact h⟩
theorem dtB_congr {x y z x' y' z' : Nat} (h1 : x = x') (h2 : y = y') (h3 : z = z') : dtB x y z = dtB x' y' z' := by subst h1 h2 h3; rfl
/-- Every date, as numbers. -/
def dtAll (A B C : Nat) : List (Nat × Nat × Nat) := (List.range A).flatMap fun a => (List.range B).flatMap fun b => (List.range C).map fun c => (a, b, c)
theorem mem_dtAll {A B C a b c : Nat} (h1 : a < A) (h2 : b < B) (h3 : c < C) : (a, b, c) ∈ dtAll A B C := by
  unfold dtAll
  simp only [List.mem_flatMap, List.mem_map, List.mem_range]
  exact ⟨a, h1, b, h2, c, h3, rfl⟩
/-- Whether a date is a day's. -/
def dtOk (n : Int) (p : Nat × Nat × Nat) : Bool := decide (2000 ≤ (p.1 : Int) ∧ (p.1 : Int) ≤ 2399 ∧ p.2.1 < 12 ∧ 1 ≤ (p.2.2 : Int) ∧ (p.2.2 : Int) ≤ md (p.1 : Int) ((p.2.1 : Int) + 1) ∧ n = ny (p.1 : Int) + sm (p.1 : Int) p.2.1 + (p.2.2 : Int) - 1)
theorem dtOk_iff (n : Int) (p : Nat × Nat × Nat) : dtOk n p = true ↔ Dt n (p.1 : Int) p.2.1 (p.2.2 : Int) := by
  unfold dtOk
  rw [decide_eq_true_iff]
  exact ⟨fun ⟨h1, h2, h3, h4, h5, h6⟩ => ⟨h1, h2, h3, h4, h5, h6⟩, fun h => ⟨h.y0, h.y1, h.k1, h.d0, h.d1, h.e⟩⟩
/-- The first of the dates in a list that is a day's. -/
def dtP (L : List (Nat × Nat × Nat)) (n : Int) : List UInt8 := match L.find? (dtOk n) with | some p => dtB p.1 p.2.1 p.2.2 | none => []
theorem dtP_of (L : List (Nat × Nat × Nat)) {n : Int} {a b c : Nat} (h : Dt n (a : Int) b (c : Int)) (hm : (a, b, c) ∈ L) : dtP L n = dtB a b c := by
  unfold dtP
  cases hf : L.find? (dtOk n) with
  | none => exact absurd ((dtOk_iff n (a, b, c)).mpr h) (List.find?_eq_none.mp hf _ hm)
  | some p =>
    have hs := (dtOk_iff n p).mp (List.find?_some hf)
    obtain ⟨e1, e2, e3⟩ := hs.uniq h
    exact dtB_congr (by omega) e2 (by omega)
theorem dtP_len (L : List (Nat × Nat × Nat)) (n : Int) : (dtP L n).length ≤ 10 := by
  unfold dtP
  split
  · show 10 ≤ 10; omega
  · show 0 ≤ 10; omega
/-- A day's text: that of its date. -/
def dtF (n : Int) : List UInt8 := dtP (dtAll 2400 12 32) n
theorem dtF_of {n : Int} {a b c : Nat} (h : Dt n (a : Int) b (c : Int)) : dtF n = dtB a b c :=
  dtP_of _ h (mem_dtAll (by have := h.y1; omega) h.k1 (by have h3 := h.d1; have h4 := md_bounds (a : Int) ((b : Int) + 1); omega))
theorem dt_bs (y k d : Nat) : (((bs (pdF 4 y) ++ (⟨#[45]⟩ : ByteArray)) ++ bs (pdF 2 (k + 1))) ++ (⟨#[45]⟩ : ByteArray)) ++ bs (pdF 2 d) = bs (dtB y k d) := by
  rw [show (⟨#[45]⟩ : ByteArray) = bs [45] from rfl, bs_app, bs_app, bs_app, bs_app]; rfl
set_option maxRecDepth 100000 in
set_option maxHeartbeats 4000000 in
theorem dateText_any (n : Int) (w : World) (h0 : 0 ≤ n) (h1 : n ≤ 146096) (hT : Mt w) (hP : Pw w) : Calls Tryz.prog 14 #[.int .i64 n] w fun e w' => e = .returned (.string (bs (dtF n))) ∧ Below w.heap.size w w' := by
  have hd := date_ok n w h0 h1 hT
  go_enter Tryz.func14, Tryz.ntmps14
  go_wp2_with (first
    | (go_at_call 42; (with_reducible refine hd.mono ?_); rintro e w1 ⟨hDP, rfl⟩; obtain ⟨y, k, m, d, rfl, rfl, hDt⟩ := hDP; obtain ⟨yn, rfl⟩ : ∃ z : Nat, y = (z : Int) := ⟨y.toNat, by have := hDt.y0; omega⟩; obtain ⟨dn, rfl⟩ : ∃ z : Nat, d = (z : Int) := ⟨d.toNat, by have := hDt.d0; omega⟩; have r1 := hDt.y0; have r2 := hDt.y1; have r3 := hDt.k1; have r4 : (dn : Int) ≤ 31 := (by have := hDt.d1; have := md_bounds (yn : Int) ((k : Int) + 1); omega); have hE := dtF_of hDt; have hq := dt_bs yn k dn; rw [← hE] at hq; have hE' : Hid (((((bs (pdF 4 yn) ++ (⟨#[45]⟩ : ByteArray)) ++ bs (pdF 2 (k + 1))) ++ (⟨#[45]⟩ : ByteArray)) ++ bs (pdF 2 dn)) = bs (dtF n)) := hq; clear hE hq hDt; have z1 : (bs (pdF 4 yn)).size = 4 := (by rw [bs_size]; rfl); have z2 : (bs (pdF 2 (k + 1))).size = 2 := (by rw [bs_size]; rfl); have z3 : (bs (pdF 2 dn)).size = 2 := (by rw [bs_size]; rfl); have cy := (show Calls Tryz.prog 41 #[.int .i64 (yn : Int)] w fun e w' => e = .returned (.string (bs (pdF 4 yn))) ∧ Below w.heap.size w w' from (by have := itoa_any (yn : Int) w (by omega) (by omega) hP; unfold ti at this; rw [itoa_nat, dd4 yn (by omega) (by omega)] at this; exact this)); have cm := (show ∀ W, Pw W → Calls Tryz.prog 40 #[.int .i64 ((k : Int) + 1)] W fun e w' => e = .returned (.string (bs (pdF 2 (k + 1)))) ∧ Below W.heap.size W w' from fun W hW => (by have := two_any (k + 1) W (by omega) hW; simpa using this)); have cd := (show ∀ W, Pw W → Calls Tryz.prog 40 #[.int .i64 (dn : Int)] W fun e w' => e = .returned (.string (bs (pdF 2 dn))) ∧ Below W.heap.size W w' from fun W hW => two_any dn W (by omega) hW); generalize bs (pdF 4 yn) = xa at *; generalize bs (pdF 2 (k + 1)) = xb at *; generalize bs (pdF 2 dn) = xc at *)
    | (go_at_call 41; (with_reducible refine (cy).mono ?_); rintro e w2 ⟨rfl, hb2⟩)
    | (go_at_call 40; (with_reducible refine (cm w2 (hP.below hb2)).mono ?_); rintro e w3 ⟨rfl, hb3⟩)
    | (go_at_call 40; (with_reducible refine (cd w3 ((hP.below hb2).below hb3)).mono ?_); rintro e w4 ⟨rfl, hb4⟩))
  go_ret
  exact ⟨ret_str hE'.out, belT (belT hb2 hb3) hb4⟩
set_option maxRecDepth 100000 in
set_option maxHeartbeats 4000000 in
theorem dated_any (n : Int) (w : World) (h0 : 0 ≤ n) (h1 : n ≤ 146096) : Calls Tryz.prog 20 #[.int .i64 n] w fun e w' => e = .returned (.string (bs (dtF n))) ∧ Below w.heap.size w w' := by
  have hd := refDate_ok n w h0 h1
  go_enter Tryz.func20, Tryz.ntmps20
  go_wp2_with (first
    | (go_at_call 44; (with_reducible refine hd.mono ?_); rintro e w1 ⟨hDP, rfl⟩; obtain ⟨y, k, m, d, rfl, rfl, hDt⟩ := hDP; obtain ⟨yn, rfl⟩ : ∃ z : Nat, y = (z : Int) := ⟨y.toNat, by have := hDt.y0; omega⟩; obtain ⟨dn, rfl⟩ : ∃ z : Nat, d = (z : Int) := ⟨d.toNat, by have := hDt.d0; omega⟩; have r1 := hDt.y0; have r2 := hDt.y1; have r3 := hDt.k1; have r4 : (dn : Int) ≤ 31 := (by have := hDt.d1; have := md_bounds (yn : Int) ((k : Int) + 1); omega); have hE := dtF_of hDt; have hq := dt_bs yn k dn; rw [← hE] at hq; have hE' : Hid (((((bs (pdF 4 yn) ++ (⟨#[45]⟩ : ByteArray)) ++ bs (pdF 2 (k + 1))) ++ (⟨#[45]⟩ : ByteArray)) ++ bs (pdF 2 dn)) = bs (dtF n)) := hq; clear hE hq hDt; have z1 : (bs (pdF 4 yn)).size = 4 := (by rw [bs_size]; rfl); have z2 : (bs (pdF 2 (k + 1))).size = 2 := (by rw [bs_size]; rfl); have z3 : (bs (pdF 2 dn)).size = 2 := (by rw [bs_size]; rfl); have cy := (show Calls Tryz.prog 43 #[.int .i64 (yn : Int), .int .i64 4] w fun e w' => e = .returned (.string (bs (pdF 4 yn))) ∧ Below w.heap.size w w' from pad_any yn 4 w (by omega) (by omega)); have cm := (show ∀ W, Calls Tryz.prog 43 #[.int .i64 ((k : Int) + 1), .int .i64 2] W fun e w' => e = .returned (.string (bs (pdF 2 (k + 1)))) ∧ Below W.heap.size W w' from fun W => (by have := pad_any (k + 1) 2 W (by omega) (by omega); simpa using this)); have cd := (show ∀ W, Calls Tryz.prog 43 #[.int .i64 (dn : Int), .int .i64 2] W fun e w' => e = .returned (.string (bs (pdF 2 dn))) ∧ Below W.heap.size W w' from fun W => pad_any dn 2 W (by omega) (by omega)); generalize bs (pdF 4 yn) = xa at *; generalize bs (pdF 2 (k + 1)) = xb at *; generalize bs (pdF 2 dn) = xc at *)
    | (go_at_call 43; (with_reducible refine (cy).mono ?_); rintro e w2 ⟨rfl, hb2⟩)
    | (go_at_call 43; (with_reducible refine (cm w2).mono ?_); rintro e w3 ⟨rfl, hb3⟩)
    | (go_at_call 43; (with_reducible refine (cd w3).mono ?_); rintro e w4 ⟨rfl, hb4⟩))
  go_ret
  exact ⟨ret_str hE'.out, belT (belT hb2 hb3) hb4⟩
end Go.Proofs.YtkeoebllblbkgaaGreatDoor
