import Derived.Test.YtcehnibfmhbeiabWalksE
namespace Go.Proofs.Ytcehnibfmhbeiab
open Go.RowKit
set_option linter.unusedVariables false

/-- Block b holds just these cells. -/
def Has (w : World) (b : Nat) (vs : Array Value) : Prop := b < w.heap.size ∧ ∀ i, w.cell? ⟨b, i, none⟩ = vs[i]?
theorem Has.below {w w' : World} {b : Nat} {vs : Array Value} (h : Has w b vs) (hb : Below w.heap.size w w') : Has w' b vs :=
  ⟨Nat.lt_of_lt_of_le h.1 hb.size, fun i => (hb.cell (p := ⟨b, i, none⟩) h.1).trans (h.2 i)⟩
theorem Has.alloc {w : World} {b : Nat} {vs : Array Value} (h : Has w b vs) (o : Obj) : Has (w.alloc o) b vs :=
  h.below ((Below.refl _ _).alloc (Nat.le_refl _) _)
theorem Has.drewN {w : World} {b n : Nat} {vs : Array Value} (h : Has w b vs) : Has (w.drewN n) b vs :=
  h.below (bel_drewN (Below.refl _ _))
theorem Has.drew {w : World} {b : Nat} {vs : Array Value} (h : Has w b vs) : Has w.drew b vs := h
theorem Has.new (w : World) (vs : Array Value) (t : TypeId) {b : Nat} (hb : b = w.heap.size) : Has (w.alloc (.cells vs t)) b vs :=
  ⟨by simp [hb], fun i => by simp [hb]⟩
theorem bel_after {w W w1 : World} {B : Nat} (h : Below B w W) (hB : B ≤ W.heap.size) (hb : Below W.heap.size W w1) : Below B w w1 := h.trans (hb.mono hB)

def Pk (B : Nat) (w : World) (b1 b2 b3 b4 : Nat) (dv sv nv : Array Value) (w' : World) : Prop :=
  Below B w w' ∧ B ≤ w'.heap.size ∧ Has w' b1 dv ∧ Has w' b2 sv ∧ Has w' b3 nv ∧ Has w' b4 nv
theorem Pk.below {B : Nat} {w w' w1 : World} {b1 b2 b3 b4 : Nat} {dv sv nv : Array Value} (hb : Below w'.heap.size w' w1) (h : Pk B w b1 b2 b3 b4 dv sv nv w') : Pk B w b1 b2 b3 b4 dv sv nv w1 :=
  ⟨bel_after h.1 h.2.1 hb, Nat.le_trans h.2.1 hb.size, h.2.2.1.below hb, h.2.2.2.1.below hb, h.2.2.2.2.1.below hb, h.2.2.2.2.2.below hb⟩
theorem Pk.drew {B : Nat} {w w' : World} {b1 b2 b3 b4 : Nat} {dv sv nv : Array Value} (h : Pk B w b1 b2 b3 b4 dv sv nv w') : Pk B w b1 b2 b3 b4 dv sv nv w'.drew := h.below (Below.refl _ _).drew
theorem mkS {B : Nat} {w w' : World} {b1 b2 b3 b4 : Nat} {s : ByteArray} {latch on mem n3 n4 : Bool} {delay hold run left n1 n2 : Int}
    (h : Pk B w b1 b2 b3 b4 #[.string s, .bool latch, .int .i64 delay, .int .i64 hold] #[.int .i32 run, .int .i32 left, .bool on, .bool mem] #[.int .i32 n1, .int .i32 n2, .bool n3, .bool n4] w') : Pk B w b1 b2 b3 b4 #[.string s, .bool latch, .int .i64 delay, .int .i64 hold] #[.int .i32 run, .int .i32 left, .bool on, .bool mem] #[.int .i32 n1, .int .i32 n2, .bool n3, .bool n4] w' ∧ w'.cell? ⟨b1, 0, none⟩ = some (.string s) ∧ w'.cell? ⟨b1, 1, none⟩ = some (.bool latch) ∧ w'.cell? ⟨b1, 2, none⟩ = some (.int .i64 delay) ∧ w'.cell? ⟨b1, 3, none⟩ = some (.int .i64 hold) ∧ w'.cell? ⟨b2, 0, none⟩ = some (.int .i32 run) ∧ w'.cell? ⟨b2, 1, none⟩ = some (.int .i32 left) ∧ w'.cell? ⟨b2, 2, none⟩ = some (.bool on) ∧ w'.cell? ⟨b2, 3, none⟩ = some (.bool mem) ∧ w'.cell? ⟨b3, 0, none⟩ = some (.int .i32 n1) ∧ w'.cell? ⟨b3, 1, none⟩ = some (.int .i32 n2) ∧ w'.cell? ⟨b3, 2, none⟩ = some (.bool n3) ∧ w'.cell? ⟨b3, 3, none⟩ = some (.bool n4) ∧ w'.cell? ⟨b4, 0, none⟩ = some (.int .i32 n1) ∧ w'.cell? ⟨b4, 1, none⟩ = some (.int .i32 n2) ∧ w'.cell? ⟨b4, 2, none⟩ = some (.bool n3) ∧ w'.cell? ⟨b4, 3, none⟩ = some (.bool n4) :=
  ⟨h, by simpa using h.2.2.1.2 0, by simpa using h.2.2.1.2 1, by simpa using h.2.2.1.2 2, by simpa using h.2.2.1.2 3, by simpa using h.2.2.2.1.2 0, by simpa using h.2.2.2.1.2 1, by simpa using h.2.2.2.1.2 2, by simpa using h.2.2.2.1.2 3, by simpa using h.2.2.2.2.1.2 0, by simpa using h.2.2.2.2.1.2 1, by simpa using h.2.2.2.2.1.2 2, by simpa using h.2.2.2.2.1.2 3, by simpa using h.2.2.2.2.2.2 0, by simpa using h.2.2.2.2.2.2 1, by simpa using h.2.2.2.2.2.2 2, by simpa using h.2.2.2.2.2.2 3⟩

set_option maxRecDepth 100000 in
set_option maxHeartbeats 2000000 in
theorem law_walk (v : Int) (r : Bool) (s : ByteArray) (latch on mem raw : Bool) (delay hold run left v' n1 n2 : Int) (n3 n4 : Bool) (w : World)
    (hUp : ∀ w, Calls Try.prog 4 #[.int .i32 v] w fun e w' => e = .returned (.int .i32 (upF v)) ∧ w' = w)
    (hUp' : ∀ w, Calls Try.prog 5 #[.int .i32 v] w fun e w' => e = .returned (.int .i32 (upF v)) ∧ w' = w)
    (hSt : ∀ w, Calls Try.prog 6 #[.agg #[.int .i32 v, .bool r]] w fun e w' => e = .returned (.agg #[.int .i32 v', .bool r]) ∧ Below w.heap.size w w')
    (hSt' : ∀ w, Calls Try.prog 7 #[.agg #[.int .i32 v, .bool r]] w fun e w' => e = .returned (.agg #[.int .i32 v', .bool r]) ∧ Below w.heap.size w w')
    (hSe : ∀ w, Calls Try.prog 8 #[.agg #[.string s, .bool latch, .int .i64 delay, .int .i64 hold], .agg #[.int .i32 run, .int .i32 left, .bool on, .bool mem], .bool raw] w fun e w' => e = .returned (.agg #[.int .i32 n1, .int .i32 n2, .bool n3, .bool n4]) ∧ Below w.heap.size w w')
    (hSe' : ∀ w, Calls Try.prog 9 #[.agg #[.string s, .bool latch, .int .i64 delay, .int .i64 hold], .agg #[.int .i32 run, .int .i32 left, .bool on, .bool mem], .bool raw] w fun e w' => e = .returned (.agg #[.int .i32 n1, .int .i32 n2, .bool n3, .bool n4]) ∧ Below w.heap.size w w') :
    Calls Try.prog 3 #[.agg #[.int .i32 v, .bool r], .agg #[.string s, .bool latch, .int .i64 delay, .int .i64 hold], .agg #[.int .i32 run, .int .i32 left, .bool on, .bool mem], .bool raw] w
      fun e w' => e = .returned (.bool true) ∧ Below w.heap.size w w' := by
  go_enter Try.func3, Try.ntmps3
  go_wp2
  go_quiet ((first | (go_at_call 4; exact Calls.quiet_of_same (hUp _)) | (go_at_call 5; exact Calls.quiet_of_same (hUp' _))))
  go_wp2_with (first
    | (go_at_call 6; go_must (refine (hSt _).mono ?_; rintro e w1 ⟨rfl, hb1⟩; have T1 : Has w1 w.heap.size #[.int .i32 v, .bool r] := ((((Has.new _ _ _ (by simp)).alloc _).alloc _).drewN).below hb1; have D1 : Has w1 (w.heap.size + 1) #[.string s, .bool latch, .int .i64 delay, .int .i64 hold] := (((Has.new _ _ _ (by simp)).alloc _).drewN).below hb1; have S1 : Has w1 (w.heap.size + 1 + 1) #[.int .i32 run, .int .i32 left, .bool on, .bool mem] := ((Has.new _ _ _ (by simp)).drewN).below hb1; have B1 : Below w.heap.size w w1 := bel_after (bel_drewN ((((Below.refl _ _).alloc (Nat.le_refl _) _).alloc (by simp) _).alloc (by simp; omega) _)) (by simp; omega) hb1; clear hb1; obtain ⟨t1, T1'⟩ := id T1; obtain ⟨d1, D1'⟩ := id D1; obtain ⟨s1, S1'⟩ := id S1))
    | (go_at_call 7; go_must (refine (hSt' _).mono ?_; rintro e w2 ⟨rfl, hb2⟩; have U2 : Has w2 w1.heap.size #[.int .i32 v', .bool r] := (Has.new _ _ _ (by simp)).below hb2; have D2 : Has w2 (w.heap.size + 1) #[.string s, .bool latch, .int .i64 delay, .int .i64 hold] := (D1.alloc _).below hb2; have S2 : Has w2 (w.heap.size + 1 + 1) #[.int .i32 run, .int .i32 left, .bool on, .bool mem] := (S1.alloc _).below hb2; have B2 : Below w.heap.size w w2 := bel_after (B1.alloc B1.size _) (by have := B1.size; simp; omega) hb2; clear hb2 T1 D1 S1 T1' D1' S1'; obtain ⟨u2, U2'⟩ := id U2; obtain ⟨d2, D2'⟩ := id D2; obtain ⟨s2, S2'⟩ := id S2))
    | (go_at_call 8; go_must (refine (hSe _).mono ?_; rintro e w3 ⟨rfl, hb3⟩; have D3 : Has w3 (w.heap.size + 1) #[.string s, .bool latch, .int .i64 delay, .int .i64 hold] := (D2.alloc _).below hb3; have S3 : Has w3 (w.heap.size + 1 + 1) #[.int .i32 run, .int .i32 left, .bool on, .bool mem] := (S2.alloc _).below hb3; have B3 : Below w.heap.size w w3 := bel_after (B2.alloc B2.size _) (by have := B2.size; simp; omega) hb3; clear hb3 U2 D2 S2 U2' D2' S2'; obtain ⟨d3, D3'⟩ := id D3; obtain ⟨s3, S3'⟩ := id S3))
    | (go_at_call 9; go_must (refine (hSe' _).mono ?_; rintro e w4 ⟨rfl, hb4⟩; have N4 : Has w4 w3.heap.size #[.int .i32 n1, .int .i32 n2, .bool n3, .bool n4] := (Has.new _ _ _ (by simp)).below hb4; have D4 : Has w4 (w.heap.size + 1) #[.string s, .bool latch, .int .i64 delay, .int .i64 hold] := (D3.alloc _).below hb4; have S4 : Has w4 (w.heap.size + 1 + 1) #[.int .i32 run, .int .i32 left, .bool on, .bool mem] := (S3.alloc _).below hb4; have B4 : Below w.heap.size w w4 := bel_after (B3.alloc B3.size _) (by have := B3.size; simp; omega) hb4; clear hb4 D3 S3 D3' S3'; obtain ⟨m4, N4'⟩ := id N4; obtain ⟨d4, D4'⟩ := id D4; obtain ⟨s4, S4'⟩ := id S4)))
  have P5 : Pk w.heap.size w (w.heap.size + 1) (w.heap.size + 1 + 1) w3.heap.size w4.heap.size #[.string s, .bool latch, .int .i64 delay, .int .i64 hold] #[.int .i32 run, .int .i32 left, .bool on, .bool mem] #[.int .i32 n1, .int .i32 n2, .bool n3, .bool n4] (w4.alloc (.cells #[.int .i32 n1, .int .i32 n2, .bool n3, .bool n4] 27)) :=
    ⟨B4.alloc B4.size _, by have := B4.size; simp; omega, D4.alloc _, S4.alloc _, N4.alloc _, Has.new _ _ _ (by simp)⟩
  clear N4' D4' S4' N4 D4 S4
  generalize w4.alloc (.cells #[.int .i32 n1, .int .i32 n2, .bool n3, .bool n4] 27) = W5 at *
  have P6 := P5.drew
  go_region_held3 (fun w' => Pk w.heap.size w (w.heap.size + 1) (w.heap.size + 1 + 1) w3.heap.size w4.heap.size #[.string s, .bool latch, .int .i64 delay, .int .i64 hold] #[.int .i32 run, .int .i32 left, .bool on, .bool mem] #[.int .i32 n1, .int .i32 n2, .bool n3, .bool n4] w' ∧ w'.cell? ⟨w.heap.size + 1, 0, none⟩ = some (.string s) ∧ w'.cell? ⟨w.heap.size + 1, 1, none⟩ = some (.bool latch) ∧ w'.cell? ⟨w.heap.size + 1, 2, none⟩ = some (.int .i64 delay) ∧ w'.cell? ⟨w.heap.size + 1, 3, none⟩ = some (.int .i64 hold) ∧ w'.cell? ⟨w.heap.size + 1 + 1, 0, none⟩ = some (.int .i32 run) ∧ w'.cell? ⟨w.heap.size + 1 + 1, 1, none⟩ = some (.int .i32 left) ∧ w'.cell? ⟨w.heap.size + 1 + 1, 2, none⟩ = some (.bool on) ∧ w'.cell? ⟨w.heap.size + 1 + 1, 3, none⟩ = some (.bool mem) ∧ w'.cell? ⟨w3.heap.size, 0, none⟩ = some (.int .i32 n1) ∧ w'.cell? ⟨w3.heap.size, 1, none⟩ = some (.int .i32 n2) ∧ w'.cell? ⟨w3.heap.size, 2, none⟩ = some (.bool n3) ∧ w'.cell? ⟨w3.heap.size, 3, none⟩ = some (.bool n4) ∧ w'.cell? ⟨w4.heap.size, 0, none⟩ = some (.int .i32 n1) ∧ w'.cell? ⟨w4.heap.size, 1, none⟩ = some (.int .i32 n2) ∧ w'.cell? ⟨w4.heap.size, 2, none⟩ = some (.bool n3) ∧ w'.cell? ⟨w4.heap.size, 3, none⟩ = some (.bool n4)) (exact mkS (by assumption))
    (first | (go_at_call 10; refine (says_any _ _ _ _ _ _ _ _ _).mono ?_; rintro e w' ⟨rfl, hb'⟩; have hP' := Pk.below hb' (by assumption)) | (go_at_call 11; refine (refSays_any _ _ _ _ _ _ _ _ _).mono ?_; rintro e w' ⟨rfl, hb'⟩; have hP' := Pk.below hb' (by assumption)))
  obtain ⟨B6, z6, _, S6, _, _⟩ := hP'
  obtain ⟨s6, S6'⟩ := id S6
  clear P5 P6 hUp hUp' hSt hSt' hSe hSe'
  go_wp2_with (first
    | (go_at_call 12; go_must (refine (clear_any _ _ _ _ _).mono ?_; rintro e w7 ⟨rfl, hb7⟩; have S7 : Has w7 (w.heap.size + 1 + 1) #[.int .i32 run, .int .i32 left, .bool on, .bool mem] := S6.below hb7; have B7 : Below w.heap.size w w7 := bel_after B6 z6 hb7; clear hb7 S6'; obtain ⟨s7, S7'⟩ := id S7))
    | (go_at_call 13; go_must (refine (refClear_any _ _ _ _ _).mono ?_; rintro e w8 ⟨rfl, hb8⟩; have X8 : Has w8 w7.heap.size #[.int .i32 run, .int .i32 left, .bool on, .bool false] := (Has.new _ _ _ (by simp)).below hb8; have B8 : Below w.heap.size w w8 := bel_after (B7.alloc B7.size _) (by have := B7.size; simp; omega) hb8; clear hb8 S7'; obtain ⟨x8, X8'⟩ := id X8)))
  go_ret
  exact ⟨rfl, B8.alloc B8.size _⟩
end Go.Proofs.Ytcehnibfmhbeiab
