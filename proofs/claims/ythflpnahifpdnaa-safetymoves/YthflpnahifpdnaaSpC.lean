import Derived.Test.YthflpnahifpdnaaSpB
import Derived.Test.YthflpnahifpdnaaShA
import Derived.Deep.RegionHeld3
import Derived.Laws.EntriesVeiled
namespace Go.Proofs.Ythflpnahifpdnaa
open Go.RowKit
set_option linter.unusedVariables false


def gp0 : Gp := ⟨⟨#[]⟩, 0, 0, 0, 0⟩
/-- What group k shows by itself. -/
def alF (G : List Gp) (A I : List Int) (M : Nat) (k : Nat) : Int := aloneF (G.getD k gp0) (A.getD k 0) (I.getD k 0) (M.testBit k)
theorem alF_at {G : List Gp} {A I : List Int} {M k : Nat} (h : k < G.length) (h1 : k < A.length) : alF G A I M k = aloneF G[k] A[k] (I.getD k 0) (M.testBit k) := by
  unfold alF
  simp [List.getD_eq_getElem?_getD, h, h1]
def valR (n : Nat) (f : Nat → Int) : List Value := (List.range n).map fun k => .int .i64 (f k)
theorem valR_len (n : Nat) (f : Nat → Int) : (valR n f).length = n := by simp [valR]
theorem valR_get {n : Nat} {f : Nat → Int} {k : Nat} (h : k < n) : (valR n f)[k]? = some (.int .i64 (f k)) := by simp [valR, h]
theorem valR_ext {n : Nat} {f g : Nat → Int} (h : ∀ k, k < n → f k = g k) : valR n f = valR n g := by
  unfold valR
  apply List.map_congr_left
  intro k hk
  rw [h k (by simpa using hk)]
theorem valR_set {n : Nat} {f : Nat → Int} {k : Nat} {v : Int} (h : k < n) : setAll (valR n f) k [.int .i64 v] = valR n (fun j => if j = k then v else f j) := by
  apply List.ext_getElem?
  intro i
  by_cases hi : i < n
  · rw [valR_get hi]
    by_cases e : i = k
    · subst e
      have := setAll_in [.int .i64 v] (valR n f) i 0 (by simp [valR_len]; omega) (by simp)
      simpa using this
    · rw [setAll_out [.int .i64 v] (valR n f) k i (by simp; omega), valR_get hi, if_neg e]
  · rw [List.getElem?_eq_none (by rw [setAll_len, valR_len]; omega), List.getElem?_eq_none (by rw [valR_len]; omega)]
theorem only_below {S : Nat → Prop} {w w' w'' : World} (h : Only S w w') (hb : Below w'.heap.size w' w'') : Only S w w'' := h.below hb
theorem Sp.only {S : Nat → Prop} {w0 w w' : World} {b : Nat} {G : List Gp} {C : List Cf} {A I W : List Int} {M : Nat} {vg vc v1 v2 v3 vn : Value} (h0 : Sp w0 b G C A I W M vg vc v1 v2 v3 vn) (hl : Below w0.heap.size w0 w) (h : Has w' b #[vg, vc, v1, v2, v3, .int .u64 (M : Int), vn]) (hb : Below w0.heap.size w0 w') : Sp w' b G C A I W M vg vc v1 v2 v3 vn :=
  ⟨h, h0.g.below hb, h0.c.below hb, h0.a.below hb, h0.i.below hb, h0.w.below hb⟩
set_option maxRecDepth 100000 in
set_option maxHeartbeats 4000000 in
theorem goOn_any (w : World) (b : Nat) (G : List Gp) (C : List Cf) (A I W : List Int) (M : Nat) (vg vc v1 v2 v3 vn : Value) (hs : Sp w b G C A I W M vg vc v1 v2 v3 vn) (ok : SpOk G C A I W M) (w0 : World) (r : Nat) (f0 : Nat → Int) (hlow : Below w0.heap.size w0 w) (hl : Sp w0 b G C A I W M vg vc v1 v2 v3 vn → True) (s0 : Fl 5 Gp.cs w0 vg G ∧ Fl 4 Cf.cs w0 vc C ∧ Fl 1 n64 w0 v1 A ∧ Fl 1 n32 w0 v2 I ∧ Fl 1 n32 w0 v3 W) (hvn : vn = .slice (some ⟨r, 0, none⟩) G.length G.length) (hown : w.ownsRow w0.heap.size 3 1 (.slice (some ⟨r, 0, none⟩) G.length G.length) G.length (valR G.length f0)) (hrb : r ≠ b) (hbb : w0.heap.size ≤ b) :
    Calls Try.prog 49 #[.pointer (some ⟨b, 0, none⟩)] w fun e w' => e = .returned (.tuple #[]) ∧ Only (fun q => q = r) w w' ∧ w'.ownsRow w0.heap.size 3 1 (.slice (some ⟨r, 0, none⟩) G.length G.length) G.length (valR G.length (alF G A I M)) := by
  subst hvn
  have rB := (own_lt hown r rfl)
  have spX : ∀ X : World, Has X b #[vg, vc, v1, v2, v3, .int .u64 (M : Int), .slice (some ⟨r, 0, none⟩) G.length G.length] → Below w0.heap.size w0 X → Sp X b G C A I W M vg vc v1 v2 v3 (.slice (some ⟨r, 0, none⟩) G.length G.length) := fun X h hb => ⟨h, s0.1.below hb, s0.2.1.below hb, s0.2.2.1.below hb, s0.2.2.2.1.below hb, s0.2.2.2.2.below hb⟩
  have Bw := hs.bx
  obtain ⟨vA, cA, eA, kA⟩ := s0.2.2.1.nums
  subst eA
  have hA0 : ∀ (k : Nat) (hk : k < A.length), 0 ≤ A[k] ∧ A[k] ≤ 3 := fun k hk => ok.oa _ (List.getElem_mem hk)
  have la : Hid (A.length = G.length) := ok.la
  have i1 : (A.length : Int) = (G.length : Int) := by have := la.out; omega
  have h64 : A.length ≤ 64 := by have := la.out; have := grid_len ok.grid; omega
  clear hs hl
  obtain ⟨_, b1, _⟩ := id Bw
  have B0 := Bw.alloc (.cells #[.func (.func 56) #[.pointer (some ⟨b, 0, none⟩)] #[], .func (.func 57) #[.pointer (some ⟨b, 0, none⟩)] #[], .func (.func 58) #[.pointer (some ⟨b, 0, none⟩)] #[], .func (.func 59) #[.pointer (some ⟨b, 0, none⟩)] #[]] 95)
  have D0 : Has (w.alloc (.cells #[.func (.func 56) #[.pointer (some ⟨b, 0, none⟩)] #[], .func (.func 57) #[.pointer (some ⟨b, 0, none⟩)] #[], .func (.func 58) #[.pointer (some ⟨b, 0, none⟩)] #[], .func (.func 59) #[.pointer (some ⟨b, 0, none⟩)] #[]] 95)) w.heap.size #[.func (.func 56) #[.pointer (some ⟨b, 0, none⟩)] #[], .func (.func 57) #[.pointer (some ⟨b, 0, none⟩)] #[], .func (.func 58) #[.pointer (some ⟨b, 0, none⟩)] #[], .func (.func 59) #[.pointer (some ⟨b, 0, none⟩)] #[]] := Has.new _ _ _ rfl
  have O0 : Only (fun q => q = r) w (w.alloc (.cells #[.func (.func 56) #[.pointer (some ⟨b, 0, none⟩)] #[], .func (.func 57) #[.pointer (some ⟨b, 0, none⟩)] #[], .func (.func 58) #[.pointer (some ⟨b, 0, none⟩)] #[], .func (.func 59) #[.pointer (some ⟨b, 0, none⟩)] #[]] 95)) := (Only.refl _ _).alloc _
  have own0 := hown.alloc (.cells #[.func (.func 56) #[.pointer (some ⟨b, 0, none⟩)] #[], .func (.func 57) #[.pointer (some ⟨b, 0, none⟩)] #[], .func (.func 58) #[.pointer (some ⟨b, 0, none⟩)] #[], .func (.func 59) #[.pointer (some ⟨b, 0, none⟩)] #[]] 95)
  go_enter Try.func49, Try.ntmps49
  go_upto_region 1 with fail
  generalize (w.alloc (.cells #[.func (.func 56) #[.pointer (some ⟨b, 0, none⟩)] #[], .func (.func 57) #[.pointer (some ⟨b, 0, none⟩)] #[], .func (.func 58) #[.pointer (some ⟨b, 0, none⟩)] #[], .func (.func 59) #[.pointer (some ⟨b, 0, none⟩)] #[]] 95)) = W0 at *
  obtain ⟨_, c1, _⟩ := id B0
  go_wp2
  go_loopw [20] (fun t wr => ∃ (k : Nat) (f : Nat → Int), k ≤ A.length ∧ t = .int .i64 (k : Int) ∧ Hid (wr.ownsRow w0.heap.size 3 1 (.slice (some ⟨r, 0, none⟩) G.length G.length) G.length (valR G.length f)) ∧ Hid (∀ j, j < k → f j = alF G A I M j) ∧ Hid (Has wr b #[vg, vc, .slice vA A.length cA, v2, v3, .int .u64 (M : Int), .slice (some ⟨r, 0, none⟩) G.length G.length]) ∧ Hid (Has wr w.heap.size #[.func (.func 56) #[.pointer (some ⟨b, 0, none⟩)] #[], .func (.func 57) #[.pointer (some ⟨b, 0, none⟩)] #[], .func (.func 58) #[.pointer (some ⟨b, 0, none⟩)] #[], .func (.func 59) #[.pointer (some ⟨b, 0, none⟩)] #[]]) ∧ Hid (Only (fun q => q = r) w wr)) (fun t _ => A.length - (intOf t).toNat)
  case atStart => exact ⟨0, f0, by omega, rfl, own0, (fun j h => absurd h (Nat.not_lt_zero _)), B0, D0, O0⟩
  case round =>
    clear B0 D0 O0 own0 b1 c1
    obtain ⟨k, f, hkl, rfl, own', fil, Bx', Dx', O'⟩ := hrel
    have own := own'.out
    have Bx := Bx'.out
    have Dx := Dx'.out
    have O := O'.out
    have hbw : Below w0.heap.size w0 wr := bel_only hlow O (Nat.le_refl _) (fun q hq e => by omega)
    by_cases hlt : k < A.length
    · obtain ⟨gA, oA, rfl, hgA, PA⟩ := kA.resolve_left (by intro e; rw [e] at hlt; simp at hlt)
      have p0 := (hbw.cell (p := ⟨gA, _, none⟩) hgA).trans (PA k hlt _ rfl)
      have hkG : k < G.length := by have := la.out; omega
      have SPd := spX wr.drew Bx.drew hbw.drew
      have hF0 := fun (X : World) (h : Sp X b G C A I W M vg vc (.slice (some ⟨gA, oA, none⟩) A.length cA) v2 v3 (.slice (some ⟨r, 0, none⟩) G.length G.length)) => fromRed_any (.pointer (some ⟨b, 0, none⟩)) (.int .i64 (k : Int)) X
      have hF1 := fun (X : World) (h : Sp X b G C A I W M vg vc (.slice (some ⟨gA, oA, none⟩) A.length cA) v2 v3 (.slice (some ⟨r, 0, none⟩) G.length G.length)) => fromLead_any X _ _ _ _ _ _ _ _ _ _ _ _ _ h ok k hkG
      have hF2 := fun (X : World) (h : Sp X b G C A I W M vg vc (.slice (some ⟨gA, oA, none⟩) A.length cA) v2 v3 (.slice (some ⟨r, 0, none⟩) G.length G.length)) => fromGreen_any X _ _ _ _ _ _ _ _ _ _ _ _ _ h ok k hkG
      have hF3 := fun (X : World) (h : Sp X b G C A I W M vg vc (.slice (some ⟨gA, oA, none⟩) A.length cA) v2 v3 (.slice (some ⟨r, 0, none⟩) G.length G.length)) => fromAmber_any X _ _ _ _ _ _ _ _ _ _ _ _ _ h ok k hkG
      have al := alF_at (I := I) (M := M) hkG hlt
      obtain ⟨ya0, ya3⟩ := hA0 k hlt
      have t1 : (k : Int) < (A.length : Int) := by omega
      have t1' : (k : Int) < (G.length : Int) := by omega
      have t0 : (0 : Int) ≤ (k : Int) := by omega
      have t2 : k + 1 ≤ A.length := hlt
      have hfin : ∀ (v : Int) (X : World), v = alF G A I M k → X.ownsRow w0.heap.size 3 1 (.slice (some ⟨r, 0, none⟩) G.length G.length) G.length (valR G.length f) → (X.setCell ⟨r, k, none⟩ (.int .i64 v)).ownsRow w0.heap.size 3 1 (.slice (some ⟨r, 0, none⟩) G.length G.length) G.length (valR G.length (fun j => if j = k then v else f j)) ∧ ∀ j, j < k + 1 → (fun j => if j = k then v else f j) j = alF G A I M j := fun v X hv hX => by
        refine ⟨?_, fun j hj => ?_⟩
        · rw [← valR_set hkG]; exact own_stored [.int .i64 v] X _ k hX
        · by_cases e : j = k
          · subst e; simp [hv]
          · simp only [if_neg e]; exact fil.out j (by omega)
      clear kA PA hA0 own' fil Bx' Dx' O'
      obtain ⟨_, c1, _⟩ := id Bx
      generalize A[k] = ya at *
      go_upto_region 4 with fail
      have c : ya = 0 ∨ ya = 1 ∨ ya = 2 ∨ ya = 3 := by omega
      clear p0 c1
      rcases c with rfl | rfl | rfl | rfl
      · have al' : alF G A I M k = 0 := by rw [al]; unfold aloneF; simp
        refine wp_region_noPanic ?_
        refine wp_region_held_drew (S := fun w' => (w'.cell? ⟨b, 0, none⟩ = some (vg) ∧ w'.cell? ⟨b, 1, none⟩ = some (vc) ∧ w'.cell? ⟨b, 2, none⟩ = some (.slice (some ⟨gA, oA, none⟩) A.length cA) ∧ w'.cell? ⟨b, 3, none⟩ = some (v2) ∧ w'.cell? ⟨b, 4, none⟩ = some (v3) ∧ w'.cell? ⟨b, 5, none⟩ = some (.int .u64 (M : Int)) ∧ w'.cell? ⟨b, 6, none⟩ = some (.slice (some ⟨r, 0, none⟩) G.length G.length)) ∧ (w'.cell? ⟨w.heap.size, 0, none⟩ = some (.func (.func 56) #[.pointer (some ⟨b, 0, none⟩)] #[]) ∧ w'.cell? ⟨w.heap.size, 1, none⟩ = some (.func (.func 57) #[.pointer (some ⟨b, 0, none⟩)] #[]) ∧ w'.cell? ⟨w.heap.size, 2, none⟩ = some (.func (.func 58) #[.pointer (some ⟨b, 0, none⟩)] #[]) ∧ w'.cell? ⟨w.heap.size, 3, none⟩ = some (.func (.func 59) #[.pointer (some ⟨b, 0, none⟩)] #[]))) (by kernel_rfl) ?_ (fun hHeld => ?_)
        · (try dsimp only)
          exact ⟨has7 Bx.drew, has4 Dx.drew⟩
        refine wpAnyH_take (i := 0) (oi := { dst := some 25, op := Op.move (Operand.tmp 0), type := 85, pos := "step.go:28", after := #[], guard := none }) (v := ?_) rfl (by kernel_rfl) (by kernel_rfl) (by kernel_rfl) (fun _ _ _ h => h) (Or.inl ⟨by rfl, ?_⟩) (by assumption) ?_
        rotate_left
        · intro wz hSz; (try dsimp only at hSz); go_simp; all_goals (with_reducible rfl)
        (try simp only [Act.put, List.setIfInBounds_toArray, List.set_cons_zero, List.set_cons_succ])
        refine wpAnyH_take (i := 1) (oi := { dst := some 26, op := Op.nilCheck (Operand.tmp 25), type := 0, pos := "step.go:28", after := #[{ on := 0, ground := Ground.data }], guard := none }) (v := ?_) rfl (by kernel_rfl) (by kernel_rfl) (by kernel_rfl) (fun _ _ _ h => h) (Or.inl ⟨by rfl, ?_⟩) (by assumption) ?_
        rotate_left
        · intro wz hSz; (try dsimp only at hSz); go_simp; all_goals (with_reducible rfl)
        (try simp only [Act.put, List.setIfInBounds_toArray, List.set_cons_zero, List.set_cons_succ])
        refine wpAnyH_take (i := 2) (oi := { dst := some 27, op := Op.fieldAddr 87 (Operand.tmp 26) 3, type := 0, pos := "step.go:28", after := #[{ on := 1, ground := Ground.data }], guard := none }) (v := ?_) rfl (by kernel_rfl) (by kernel_rfl) (by kernel_rfl) (fun _ _ _ h => h) (Or.inl ⟨by rfl, ?_⟩) (by assumption) ?_
        rotate_left
        · intro wz hSz; (try dsimp only at hSz); go_simp; all_goals (with_reducible rfl)
        (try simp only [Act.put, List.setIfInBounds_toArray, List.set_cons_zero, List.set_cons_succ])
        refine wpAnyH_take (i := 3) (oi := { dst := some 28, op := Op.load 34 (Operand.tmp 27), type := 34, pos := "step.go:28", after := #[{ on := 2, ground := Ground.data }], guard := none }) (v := ?_) rfl (by kernel_rfl) (by kernel_rfl) (by kernel_rfl) (fun _ _ _ h => h) (Or.inl ⟨by rfl, ?_⟩) (by assumption) ?_
        rotate_left
        · intro wz hSz; (try dsimp only at hSz); go_simp; all_goals (with_reducible rfl)
        (try simp only [Act.put, List.setIfInBounds_toArray, List.set_cons_zero, List.set_cons_succ])
        refine wpAnyH_take (i := 4) (oi := { dst := some 29, op := Op.move (Operand.tmp 3), type := 3, pos := "step.go:28", after := #[], guard := none }) (v := ?_) rfl (by kernel_rfl) (by kernel_rfl) (by kernel_rfl) (fun _ _ _ h => h) (Or.inl ⟨by rfl, ?_⟩) (by assumption) ?_
        rotate_left
        · intro wz hSz; (try dsimp only at hSz); go_simp; all_goals (with_reducible rfl)
        (try simp only [Act.put, List.setIfInBounds_toArray, List.set_cons_zero, List.set_cons_succ])
        refine wpAnyH_take (i := 5) (oi := { dst := some 30, op := Op.move (Operand.tmp 4), type := 3, pos := "step.go:28", after := #[], guard := none }) (v := ?_) rfl (by kernel_rfl) (by kernel_rfl) (by kernel_rfl) (fun _ _ _ h => h) (Or.inl ⟨by rfl, ?_⟩) (by assumption) ?_
        rotate_left
        · intro wz hSz; (try dsimp only at hSz); go_simp; all_goals (with_reducible rfl)
        (try simp only [Act.put, List.setIfInBounds_toArray, List.set_cons_zero, List.set_cons_succ])
        refine wpAnyH_take (i := 6) (oi := { dst := some 31, op := Op.indexAddr 95 (Operand.tmp 2) (Operand.tmp 30), type := 0, pos := "step.go:28", after := #[{ on := 5, ground := Ground.data }], guard := none }) (v := ?_) rfl (by kernel_rfl) (by kernel_rfl) (by kernel_rfl) (fun _ _ _ h => h) (Or.inl ⟨by rfl, ?_⟩) (by assumption) ?_
        rotate_left
        · intro wz hSz; (try dsimp only at hSz); go_simp; all_goals (with_reducible rfl)
        (try simp only [Act.put, List.setIfInBounds_toArray, List.set_cons_zero, List.set_cons_succ])
        refine wpAnyH_take (i := 7) (oi := { dst := some 32, op := Op.load 94 (Operand.tmp 31), type := 94, pos := "step.go:28", after := #[{ on := 6, ground := Ground.data }], guard := none }) (v := ?_) rfl (by kernel_rfl) (by kernel_rfl) (by kernel_rfl) (fun _ _ _ h => h) (Or.inl ⟨by rfl, ?_⟩) (by assumption) ?_
        rotate_left
        · intro wz hSz; (try dsimp only at hSz); go_simp; all_goals (with_reducible rfl)
        (try simp only [Act.put, List.setIfInBounds_toArray, List.set_cons_zero, List.set_cons_succ])
        refine wpAnyH_take (i := 8) (oi := { dst := some 33, op := Op.move (Operand.tmp 3), type := 3, pos := "step.go:28", after := #[], guard := none }) (v := ?_) rfl (by kernel_rfl) (by kernel_rfl) (by kernel_rfl) (fun _ _ _ h => h) (Or.inl ⟨by rfl, ?_⟩) (by assumption) ?_
        rotate_left
        · intro wz hSz; (try dsimp only at hSz); go_simp; all_goals (with_reducible rfl)
        (try simp only [Act.put, List.setIfInBounds_toArray, List.set_cons_zero, List.set_cons_succ])
        refine wpAnyH_ready (rs := [9]) (by kernel_rfl) (by simp) ?_
        refine AllReadyH.cons (o := { dst := some 34, op := Op.call { callee := Callee.value (Operand.tmp 32), args := #[Operand.tmp 33], argTypes := #[3] }, type := 3, pos := "step.go:28", after := #[{ on := 7, ground := Ground.data }, { on := 8, ground := Ground.data }], guard := none }) rfl (fun K hK => ?_) AllReadyH.nil
        go_simp
        (go_at_call 56; (with_reducible refine Calls.mono (hF0 _ (by exact SPd)) ?_); rintro e w2 ⟨rfl, hb2⟩; have Bx2 := Bx.drew.below hb2; have Dx2 := Dx.drew.below hb2; have own2 := own_bel own.drew hb2; have O2 := O.drew.below hb2; obtain ⟨y0, z0⟩ := own_some own2 k (by omega); have hfz := own2.frozenAt)
        go_wp2_with fail
        refine hK.out _ _ ?_ (fun hHeld => ?_)
        · (try dsimp only)
          exact ⟨has7 Bx2, has4 Dx2⟩
        clear hK K
        (try simp only [Act.put, List.setIfInBounds_toArray, List.set_cons_zero, List.set_cons_succ])
        refine wpAnyH_take (i := 10) (oi := { dst := some 35, op := Op.indexAddr 34 (Operand.tmp 28) (Operand.tmp 29), type := 0, pos := "step.go:28", after := #[{ on := 3, ground := Ground.data }, { on := 4, ground := Ground.data }, { on := 0, ground := Ground.phase }, { on := 1, ground := Ground.phase }, { on := 2, ground := Ground.phase }, { on := 3, ground := Ground.phase }, { on := 4, ground := Ground.phase }, { on := 5, ground := Ground.phase }, { on := 6, ground := Ground.phase }, { on := 7, ground := Ground.phase }, { on := 8, ground := Ground.phase }, { on := 9, ground := Ground.phase }], guard := none }) (v := ?_) rfl (by kernel_rfl) (by kernel_rfl) (by kernel_rfl) (fun _ _ _ h => h) (Or.inl ⟨by rfl, ?_⟩) (by assumption) ?_
        rotate_left
        · intro wz hSz; (try dsimp only at hSz); go_simp; all_goals (with_reducible rfl)
        (try simp only [Act.put, List.setIfInBounds_toArray, List.set_cons_zero, List.set_cons_succ])
        refine wpAnyH_ready (rs := [11]) (by kernel_rfl) (by simp) ?_
        refine AllReadyH.cons (o := { dst := none, op := Op.store 3 (Operand.tmp 35) (Operand.tmp 34), type := 0, pos := "step.go:28", after := #[{ on := 10, ground := Ground.data }, { on := 9, ground := Ground.data }, { on := 9, ground := Ground.chain }, { on := 0, ground := Ground.phase }, { on := 1, ground := Ground.phase }, { on := 2, ground := Ground.phase }, { on := 3, ground := Ground.phase }, { on := 4, ground := Ground.phase }, { on := 5, ground := Ground.phase }, { on := 6, ground := Ground.phase }, { on := 7, ground := Ground.phase }, { on := 8, ground := Ground.phase }, { on := 9, ground := Ground.phase }], guard := none }) rfl (fun K hK => ?_) AllReadyH.nil
        go_simp
        refine hK.out _ _ ?_ (fun hHeld => ?_)
        · (try dsimp only)
          exact ⟨has7 (Bx2.far (Ne.symm hrb) _), has4 (Dx2.far (by omega) _)⟩
        clear hK K
        (try simp only [Act.put, List.setIfInBounds_toArray, List.set_cons_zero, List.set_cons_succ])
        refine wpAnyH_done (by kernel_rfl) ?_ _
        refine NoPanic.normal ?_
        obtain ⟨n1, n2⟩ := hfin _ w2 al'.symm own2
        go_wp2_with fail
        go_roundw
        case rel => exact ⟨k + 1, _, by omega, by go_num, n1, n2, Bx2.far (Ne.symm hrb) _, Dx2.far (by omega) _, O2.set rfl _⟩
        case measure => simp [intOf]; omega
      · have al' : alF G A I M k = (if I.getD k 0 < G[k].lead then 1 else 2) := by rw [al]; unfold aloneF; simp
        generalize (if I.getD k 0 < G[k].lead then (1 : Int) else 2) = vv at hF1 al'
        refine wp_region_noPanic ?_
        refine wp_region_held_drew (S := fun w' => (w'.cell? ⟨b, 0, none⟩ = some (vg) ∧ w'.cell? ⟨b, 1, none⟩ = some (vc) ∧ w'.cell? ⟨b, 2, none⟩ = some (.slice (some ⟨gA, oA, none⟩) A.length cA) ∧ w'.cell? ⟨b, 3, none⟩ = some (v2) ∧ w'.cell? ⟨b, 4, none⟩ = some (v3) ∧ w'.cell? ⟨b, 5, none⟩ = some (.int .u64 (M : Int)) ∧ w'.cell? ⟨b, 6, none⟩ = some (.slice (some ⟨r, 0, none⟩) G.length G.length)) ∧ (w'.cell? ⟨w.heap.size, 0, none⟩ = some (.func (.func 56) #[.pointer (some ⟨b, 0, none⟩)] #[]) ∧ w'.cell? ⟨w.heap.size, 1, none⟩ = some (.func (.func 57) #[.pointer (some ⟨b, 0, none⟩)] #[]) ∧ w'.cell? ⟨w.heap.size, 2, none⟩ = some (.func (.func 58) #[.pointer (some ⟨b, 0, none⟩)] #[]) ∧ w'.cell? ⟨w.heap.size, 3, none⟩ = some (.func (.func 59) #[.pointer (some ⟨b, 0, none⟩)] #[]))) (by kernel_rfl) ?_ (fun hHeld => ?_)
        · (try dsimp only)
          exact ⟨has7 Bx.drew, has4 Dx.drew⟩
        refine wpAnyH_take (i := 0) (oi := { dst := some 25, op := Op.move (Operand.tmp 0), type := 85, pos := "step.go:28", after := #[], guard := none }) (v := ?_) rfl (by kernel_rfl) (by kernel_rfl) (by kernel_rfl) (fun _ _ _ h => h) (Or.inl ⟨by rfl, ?_⟩) (by assumption) ?_
        rotate_left
        · intro wz hSz; (try dsimp only at hSz); go_simp; all_goals (with_reducible rfl)
        (try simp only [Act.put, List.setIfInBounds_toArray, List.set_cons_zero, List.set_cons_succ])
        refine wpAnyH_take (i := 1) (oi := { dst := some 26, op := Op.nilCheck (Operand.tmp 25), type := 0, pos := "step.go:28", after := #[{ on := 0, ground := Ground.data }], guard := none }) (v := ?_) rfl (by kernel_rfl) (by kernel_rfl) (by kernel_rfl) (fun _ _ _ h => h) (Or.inl ⟨by rfl, ?_⟩) (by assumption) ?_
        rotate_left
        · intro wz hSz; (try dsimp only at hSz); go_simp; all_goals (with_reducible rfl)
        (try simp only [Act.put, List.setIfInBounds_toArray, List.set_cons_zero, List.set_cons_succ])
        refine wpAnyH_take (i := 2) (oi := { dst := some 27, op := Op.fieldAddr 87 (Operand.tmp 26) 3, type := 0, pos := "step.go:28", after := #[{ on := 1, ground := Ground.data }], guard := none }) (v := ?_) rfl (by kernel_rfl) (by kernel_rfl) (by kernel_rfl) (fun _ _ _ h => h) (Or.inl ⟨by rfl, ?_⟩) (by assumption) ?_
        rotate_left
        · intro wz hSz; (try dsimp only at hSz); go_simp; all_goals (with_reducible rfl)
        (try simp only [Act.put, List.setIfInBounds_toArray, List.set_cons_zero, List.set_cons_succ])
        refine wpAnyH_take (i := 3) (oi := { dst := some 28, op := Op.load 34 (Operand.tmp 27), type := 34, pos := "step.go:28", after := #[{ on := 2, ground := Ground.data }], guard := none }) (v := ?_) rfl (by kernel_rfl) (by kernel_rfl) (by kernel_rfl) (fun _ _ _ h => h) (Or.inl ⟨by rfl, ?_⟩) (by assumption) ?_
        rotate_left
        · intro wz hSz; (try dsimp only at hSz); go_simp; all_goals (with_reducible rfl)
        (try simp only [Act.put, List.setIfInBounds_toArray, List.set_cons_zero, List.set_cons_succ])
        refine wpAnyH_take (i := 4) (oi := { dst := some 29, op := Op.move (Operand.tmp 3), type := 3, pos := "step.go:28", after := #[], guard := none }) (v := ?_) rfl (by kernel_rfl) (by kernel_rfl) (by kernel_rfl) (fun _ _ _ h => h) (Or.inl ⟨by rfl, ?_⟩) (by assumption) ?_
        rotate_left
        · intro wz hSz; (try dsimp only at hSz); go_simp; all_goals (with_reducible rfl)
        (try simp only [Act.put, List.setIfInBounds_toArray, List.set_cons_zero, List.set_cons_succ])
        refine wpAnyH_take (i := 5) (oi := { dst := some 30, op := Op.move (Operand.tmp 4), type := 3, pos := "step.go:28", after := #[], guard := none }) (v := ?_) rfl (by kernel_rfl) (by kernel_rfl) (by kernel_rfl) (fun _ _ _ h => h) (Or.inl ⟨by rfl, ?_⟩) (by assumption) ?_
        rotate_left
        · intro wz hSz; (try dsimp only at hSz); go_simp; all_goals (with_reducible rfl)
        (try simp only [Act.put, List.setIfInBounds_toArray, List.set_cons_zero, List.set_cons_succ])
        refine wpAnyH_take (i := 6) (oi := { dst := some 31, op := Op.indexAddr 95 (Operand.tmp 2) (Operand.tmp 30), type := 0, pos := "step.go:28", after := #[{ on := 5, ground := Ground.data }], guard := none }) (v := ?_) rfl (by kernel_rfl) (by kernel_rfl) (by kernel_rfl) (fun _ _ _ h => h) (Or.inl ⟨by rfl, ?_⟩) (by assumption) ?_
        rotate_left
        · intro wz hSz; (try dsimp only at hSz); go_simp; all_goals (with_reducible rfl)
        (try simp only [Act.put, List.setIfInBounds_toArray, List.set_cons_zero, List.set_cons_succ])
        refine wpAnyH_take (i := 7) (oi := { dst := some 32, op := Op.load 94 (Operand.tmp 31), type := 94, pos := "step.go:28", after := #[{ on := 6, ground := Ground.data }], guard := none }) (v := ?_) rfl (by kernel_rfl) (by kernel_rfl) (by kernel_rfl) (fun _ _ _ h => h) (Or.inl ⟨by rfl, ?_⟩) (by assumption) ?_
        rotate_left
        · intro wz hSz; (try dsimp only at hSz); go_simp; all_goals (with_reducible rfl)
        (try simp only [Act.put, List.setIfInBounds_toArray, List.set_cons_zero, List.set_cons_succ])
        refine wpAnyH_take (i := 8) (oi := { dst := some 33, op := Op.move (Operand.tmp 3), type := 3, pos := "step.go:28", after := #[], guard := none }) (v := ?_) rfl (by kernel_rfl) (by kernel_rfl) (by kernel_rfl) (fun _ _ _ h => h) (Or.inl ⟨by rfl, ?_⟩) (by assumption) ?_
        rotate_left
        · intro wz hSz; (try dsimp only at hSz); go_simp; all_goals (with_reducible rfl)
        (try simp only [Act.put, List.setIfInBounds_toArray, List.set_cons_zero, List.set_cons_succ])
        refine wpAnyH_ready (rs := [9]) (by kernel_rfl) (by simp) ?_
        refine AllReadyH.cons (o := { dst := some 34, op := Op.call { callee := Callee.value (Operand.tmp 32), args := #[Operand.tmp 33], argTypes := #[3] }, type := 3, pos := "step.go:28", after := #[{ on := 7, ground := Ground.data }, { on := 8, ground := Ground.data }], guard := none }) rfl (fun K hK => ?_) AllReadyH.nil
        go_simp
        (go_at_call 57; (with_reducible refine Calls.mono (hF1 _ (by exact SPd)) ?_); rintro e w2 ⟨rfl, hb2⟩; have Bx2 := Bx.drew.below hb2; have Dx2 := Dx.drew.below hb2; have own2 := own_bel own.drew hb2; have O2 := O.drew.below hb2; obtain ⟨y0, z0⟩ := own_some own2 k (by omega); have hfz := own2.frozenAt)
        go_wp2_with fail
        refine hK.out _ _ ?_ (fun hHeld => ?_)
        · (try dsimp only)
          exact ⟨has7 Bx2, has4 Dx2⟩
        clear hK K
        (try simp only [Act.put, List.setIfInBounds_toArray, List.set_cons_zero, List.set_cons_succ])
        refine wpAnyH_take (i := 10) (oi := { dst := some 35, op := Op.indexAddr 34 (Operand.tmp 28) (Operand.tmp 29), type := 0, pos := "step.go:28", after := #[{ on := 3, ground := Ground.data }, { on := 4, ground := Ground.data }, { on := 0, ground := Ground.phase }, { on := 1, ground := Ground.phase }, { on := 2, ground := Ground.phase }, { on := 3, ground := Ground.phase }, { on := 4, ground := Ground.phase }, { on := 5, ground := Ground.phase }, { on := 6, ground := Ground.phase }, { on := 7, ground := Ground.phase }, { on := 8, ground := Ground.phase }, { on := 9, ground := Ground.phase }], guard := none }) (v := ?_) rfl (by kernel_rfl) (by kernel_rfl) (by kernel_rfl) (fun _ _ _ h => h) (Or.inl ⟨by rfl, ?_⟩) (by assumption) ?_
        rotate_left
        · intro wz hSz; (try dsimp only at hSz); go_simp; all_goals (with_reducible rfl)
        (try simp only [Act.put, List.setIfInBounds_toArray, List.set_cons_zero, List.set_cons_succ])
        refine wpAnyH_ready (rs := [11]) (by kernel_rfl) (by simp) ?_
        refine AllReadyH.cons (o := { dst := none, op := Op.store 3 (Operand.tmp 35) (Operand.tmp 34), type := 0, pos := "step.go:28", after := #[{ on := 10, ground := Ground.data }, { on := 9, ground := Ground.data }, { on := 9, ground := Ground.chain }, { on := 0, ground := Ground.phase }, { on := 1, ground := Ground.phase }, { on := 2, ground := Ground.phase }, { on := 3, ground := Ground.phase }, { on := 4, ground := Ground.phase }, { on := 5, ground := Ground.phase }, { on := 6, ground := Ground.phase }, { on := 7, ground := Ground.phase }, { on := 8, ground := Ground.phase }, { on := 9, ground := Ground.phase }], guard := none }) rfl (fun K hK => ?_) AllReadyH.nil
        go_simp
        refine hK.out _ _ ?_ (fun hHeld => ?_)
        · (try dsimp only)
          exact ⟨has7 (Bx2.far (Ne.symm hrb) _), has4 (Dx2.far (by omega) _)⟩
        clear hK K
        (try simp only [Act.put, List.setIfInBounds_toArray, List.set_cons_zero, List.set_cons_succ])
        refine wpAnyH_done (by kernel_rfl) ?_ _
        refine NoPanic.normal ?_
        obtain ⟨n1, n2⟩ := hfin _ w2 al'.symm own2
        go_wp2_with fail
        go_roundw
        case rel => exact ⟨k + 1, _, by omega, by go_num, n1, n2, Bx2.far (Ne.symm hrb) _, Dx2.far (by omega) _, O2.set rfl _⟩
        case measure => simp [intOf]; omega
      · have al' : alF G A I M k = (if M.testBit k = true then 2 else if I.getD k 0 < G[k].min then 2 else if 0 < G[k].amber then 3 else 0) := by rw [al]; unfold aloneF; simp
        generalize (if M.testBit k = true then (2 : Int) else if I.getD k 0 < G[k].min then 2 else if 0 < G[k].amber then 3 else 0) = vv at hF2 al'
        refine wp_region_noPanic ?_
        refine wp_region_held_drew (S := fun w' => (w'.cell? ⟨b, 0, none⟩ = some (vg) ∧ w'.cell? ⟨b, 1, none⟩ = some (vc) ∧ w'.cell? ⟨b, 2, none⟩ = some (.slice (some ⟨gA, oA, none⟩) A.length cA) ∧ w'.cell? ⟨b, 3, none⟩ = some (v2) ∧ w'.cell? ⟨b, 4, none⟩ = some (v3) ∧ w'.cell? ⟨b, 5, none⟩ = some (.int .u64 (M : Int)) ∧ w'.cell? ⟨b, 6, none⟩ = some (.slice (some ⟨r, 0, none⟩) G.length G.length)) ∧ (w'.cell? ⟨w.heap.size, 0, none⟩ = some (.func (.func 56) #[.pointer (some ⟨b, 0, none⟩)] #[]) ∧ w'.cell? ⟨w.heap.size, 1, none⟩ = some (.func (.func 57) #[.pointer (some ⟨b, 0, none⟩)] #[]) ∧ w'.cell? ⟨w.heap.size, 2, none⟩ = some (.func (.func 58) #[.pointer (some ⟨b, 0, none⟩)] #[]) ∧ w'.cell? ⟨w.heap.size, 3, none⟩ = some (.func (.func 59) #[.pointer (some ⟨b, 0, none⟩)] #[]))) (by kernel_rfl) ?_ (fun hHeld => ?_)
        · (try dsimp only)
          exact ⟨has7 Bx.drew, has4 Dx.drew⟩
        refine wpAnyH_take (i := 0) (oi := { dst := some 25, op := Op.move (Operand.tmp 0), type := 85, pos := "step.go:28", after := #[], guard := none }) (v := ?_) rfl (by kernel_rfl) (by kernel_rfl) (by kernel_rfl) (fun _ _ _ h => h) (Or.inl ⟨by rfl, ?_⟩) (by assumption) ?_
        rotate_left
        · intro wz hSz; (try dsimp only at hSz); go_simp; all_goals (with_reducible rfl)
        (try simp only [Act.put, List.setIfInBounds_toArray, List.set_cons_zero, List.set_cons_succ])
        refine wpAnyH_take (i := 1) (oi := { dst := some 26, op := Op.nilCheck (Operand.tmp 25), type := 0, pos := "step.go:28", after := #[{ on := 0, ground := Ground.data }], guard := none }) (v := ?_) rfl (by kernel_rfl) (by kernel_rfl) (by kernel_rfl) (fun _ _ _ h => h) (Or.inl ⟨by rfl, ?_⟩) (by assumption) ?_
        rotate_left
        · intro wz hSz; (try dsimp only at hSz); go_simp; all_goals (with_reducible rfl)
        (try simp only [Act.put, List.setIfInBounds_toArray, List.set_cons_zero, List.set_cons_succ])
        refine wpAnyH_take (i := 2) (oi := { dst := some 27, op := Op.fieldAddr 87 (Operand.tmp 26) 3, type := 0, pos := "step.go:28", after := #[{ on := 1, ground := Ground.data }], guard := none }) (v := ?_) rfl (by kernel_rfl) (by kernel_rfl) (by kernel_rfl) (fun _ _ _ h => h) (Or.inl ⟨by rfl, ?_⟩) (by assumption) ?_
        rotate_left
        · intro wz hSz; (try dsimp only at hSz); go_simp; all_goals (with_reducible rfl)
        (try simp only [Act.put, List.setIfInBounds_toArray, List.set_cons_zero, List.set_cons_succ])
        refine wpAnyH_take (i := 3) (oi := { dst := some 28, op := Op.load 34 (Operand.tmp 27), type := 34, pos := "step.go:28", after := #[{ on := 2, ground := Ground.data }], guard := none }) (v := ?_) rfl (by kernel_rfl) (by kernel_rfl) (by kernel_rfl) (fun _ _ _ h => h) (Or.inl ⟨by rfl, ?_⟩) (by assumption) ?_
        rotate_left
        · intro wz hSz; (try dsimp only at hSz); go_simp; all_goals (with_reducible rfl)
        (try simp only [Act.put, List.setIfInBounds_toArray, List.set_cons_zero, List.set_cons_succ])
        refine wpAnyH_take (i := 4) (oi := { dst := some 29, op := Op.move (Operand.tmp 3), type := 3, pos := "step.go:28", after := #[], guard := none }) (v := ?_) rfl (by kernel_rfl) (by kernel_rfl) (by kernel_rfl) (fun _ _ _ h => h) (Or.inl ⟨by rfl, ?_⟩) (by assumption) ?_
        rotate_left
        · intro wz hSz; (try dsimp only at hSz); go_simp; all_goals (with_reducible rfl)
        (try simp only [Act.put, List.setIfInBounds_toArray, List.set_cons_zero, List.set_cons_succ])
        refine wpAnyH_take (i := 5) (oi := { dst := some 30, op := Op.move (Operand.tmp 4), type := 3, pos := "step.go:28", after := #[], guard := none }) (v := ?_) rfl (by kernel_rfl) (by kernel_rfl) (by kernel_rfl) (fun _ _ _ h => h) (Or.inl ⟨by rfl, ?_⟩) (by assumption) ?_
        rotate_left
        · intro wz hSz; (try dsimp only at hSz); go_simp; all_goals (with_reducible rfl)
        (try simp only [Act.put, List.setIfInBounds_toArray, List.set_cons_zero, List.set_cons_succ])
        refine wpAnyH_take (i := 6) (oi := { dst := some 31, op := Op.indexAddr 95 (Operand.tmp 2) (Operand.tmp 30), type := 0, pos := "step.go:28", after := #[{ on := 5, ground := Ground.data }], guard := none }) (v := ?_) rfl (by kernel_rfl) (by kernel_rfl) (by kernel_rfl) (fun _ _ _ h => h) (Or.inl ⟨by rfl, ?_⟩) (by assumption) ?_
        rotate_left
        · intro wz hSz; (try dsimp only at hSz); go_simp; all_goals (with_reducible rfl)
        (try simp only [Act.put, List.setIfInBounds_toArray, List.set_cons_zero, List.set_cons_succ])
        refine wpAnyH_take (i := 7) (oi := { dst := some 32, op := Op.load 94 (Operand.tmp 31), type := 94, pos := "step.go:28", after := #[{ on := 6, ground := Ground.data }], guard := none }) (v := ?_) rfl (by kernel_rfl) (by kernel_rfl) (by kernel_rfl) (fun _ _ _ h => h) (Or.inl ⟨by rfl, ?_⟩) (by assumption) ?_
        rotate_left
        · intro wz hSz; (try dsimp only at hSz); go_simp; all_goals (with_reducible rfl)
        (try simp only [Act.put, List.setIfInBounds_toArray, List.set_cons_zero, List.set_cons_succ])
        refine wpAnyH_take (i := 8) (oi := { dst := some 33, op := Op.move (Operand.tmp 3), type := 3, pos := "step.go:28", after := #[], guard := none }) (v := ?_) rfl (by kernel_rfl) (by kernel_rfl) (by kernel_rfl) (fun _ _ _ h => h) (Or.inl ⟨by rfl, ?_⟩) (by assumption) ?_
        rotate_left
        · intro wz hSz; (try dsimp only at hSz); go_simp; all_goals (with_reducible rfl)
        (try simp only [Act.put, List.setIfInBounds_toArray, List.set_cons_zero, List.set_cons_succ])
        refine wpAnyH_ready (rs := [9]) (by kernel_rfl) (by simp) ?_
        refine AllReadyH.cons (o := { dst := some 34, op := Op.call { callee := Callee.value (Operand.tmp 32), args := #[Operand.tmp 33], argTypes := #[3] }, type := 3, pos := "step.go:28", after := #[{ on := 7, ground := Ground.data }, { on := 8, ground := Ground.data }], guard := none }) rfl (fun K hK => ?_) AllReadyH.nil
        go_simp
        (go_at_call 58; (with_reducible refine Calls.mono (hF2 _ (by exact SPd)) ?_); rintro e w2 ⟨rfl, hb2⟩; have Bx2 := Bx.drew.below hb2; have Dx2 := Dx.drew.below hb2; have own2 := own_bel own.drew hb2; have O2 := O.drew.below hb2; obtain ⟨y0, z0⟩ := own_some own2 k (by omega); have hfz := own2.frozenAt)
        go_wp2_with fail
        refine hK.out _ _ ?_ (fun hHeld => ?_)
        · (try dsimp only)
          exact ⟨has7 Bx2, has4 Dx2⟩
        clear hK K
        (try simp only [Act.put, List.setIfInBounds_toArray, List.set_cons_zero, List.set_cons_succ])
        refine wpAnyH_take (i := 10) (oi := { dst := some 35, op := Op.indexAddr 34 (Operand.tmp 28) (Operand.tmp 29), type := 0, pos := "step.go:28", after := #[{ on := 3, ground := Ground.data }, { on := 4, ground := Ground.data }, { on := 0, ground := Ground.phase }, { on := 1, ground := Ground.phase }, { on := 2, ground := Ground.phase }, { on := 3, ground := Ground.phase }, { on := 4, ground := Ground.phase }, { on := 5, ground := Ground.phase }, { on := 6, ground := Ground.phase }, { on := 7, ground := Ground.phase }, { on := 8, ground := Ground.phase }, { on := 9, ground := Ground.phase }], guard := none }) (v := ?_) rfl (by kernel_rfl) (by kernel_rfl) (by kernel_rfl) (fun _ _ _ h => h) (Or.inl ⟨by rfl, ?_⟩) (by assumption) ?_
        rotate_left
        · intro wz hSz; (try dsimp only at hSz); go_simp; all_goals (with_reducible rfl)
        (try simp only [Act.put, List.setIfInBounds_toArray, List.set_cons_zero, List.set_cons_succ])
        refine wpAnyH_ready (rs := [11]) (by kernel_rfl) (by simp) ?_
        refine AllReadyH.cons (o := { dst := none, op := Op.store 3 (Operand.tmp 35) (Operand.tmp 34), type := 0, pos := "step.go:28", after := #[{ on := 10, ground := Ground.data }, { on := 9, ground := Ground.data }, { on := 9, ground := Ground.chain }, { on := 0, ground := Ground.phase }, { on := 1, ground := Ground.phase }, { on := 2, ground := Ground.phase }, { on := 3, ground := Ground.phase }, { on := 4, ground := Ground.phase }, { on := 5, ground := Ground.phase }, { on := 6, ground := Ground.phase }, { on := 7, ground := Ground.phase }, { on := 8, ground := Ground.phase }, { on := 9, ground := Ground.phase }], guard := none }) rfl (fun K hK => ?_) AllReadyH.nil
        go_simp
        refine hK.out _ _ ?_ (fun hHeld => ?_)
        · (try dsimp only)
          exact ⟨has7 (Bx2.far (Ne.symm hrb) _), has4 (Dx2.far (by omega) _)⟩
        clear hK K
        (try simp only [Act.put, List.setIfInBounds_toArray, List.set_cons_zero, List.set_cons_succ])
        refine wpAnyH_done (by kernel_rfl) ?_ _
        refine NoPanic.normal ?_
        obtain ⟨n1, n2⟩ := hfin _ w2 al'.symm own2
        go_wp2_with fail
        go_roundw
        case rel => exact ⟨k + 1, _, by omega, by go_num, n1, n2, Bx2.far (Ne.symm hrb) _, Dx2.far (by omega) _, O2.set rfl _⟩
        case measure => simp [intOf]; omega
      · have al' : alF G A I M k = (if I.getD k 0 < G[k].amber then 3 else 0) := by rw [al]; unfold aloneF; simp
        generalize (if I.getD k 0 < G[k].amber then (3 : Int) else 0) = vv at hF3 al'
        refine wp_region_noPanic ?_
        refine wp_region_held_drew (S := fun w' => (w'.cell? ⟨b, 0, none⟩ = some (vg) ∧ w'.cell? ⟨b, 1, none⟩ = some (vc) ∧ w'.cell? ⟨b, 2, none⟩ = some (.slice (some ⟨gA, oA, none⟩) A.length cA) ∧ w'.cell? ⟨b, 3, none⟩ = some (v2) ∧ w'.cell? ⟨b, 4, none⟩ = some (v3) ∧ w'.cell? ⟨b, 5, none⟩ = some (.int .u64 (M : Int)) ∧ w'.cell? ⟨b, 6, none⟩ = some (.slice (some ⟨r, 0, none⟩) G.length G.length)) ∧ (w'.cell? ⟨w.heap.size, 0, none⟩ = some (.func (.func 56) #[.pointer (some ⟨b, 0, none⟩)] #[]) ∧ w'.cell? ⟨w.heap.size, 1, none⟩ = some (.func (.func 57) #[.pointer (some ⟨b, 0, none⟩)] #[]) ∧ w'.cell? ⟨w.heap.size, 2, none⟩ = some (.func (.func 58) #[.pointer (some ⟨b, 0, none⟩)] #[]) ∧ w'.cell? ⟨w.heap.size, 3, none⟩ = some (.func (.func 59) #[.pointer (some ⟨b, 0, none⟩)] #[]))) (by kernel_rfl) ?_ (fun hHeld => ?_)
        · (try dsimp only)
          exact ⟨has7 Bx.drew, has4 Dx.drew⟩
        refine wpAnyH_take (i := 0) (oi := { dst := some 25, op := Op.move (Operand.tmp 0), type := 85, pos := "step.go:28", after := #[], guard := none }) (v := ?_) rfl (by kernel_rfl) (by kernel_rfl) (by kernel_rfl) (fun _ _ _ h => h) (Or.inl ⟨by rfl, ?_⟩) (by assumption) ?_
        rotate_left
        · intro wz hSz; (try dsimp only at hSz); go_simp; all_goals (with_reducible rfl)
        (try simp only [Act.put, List.setIfInBounds_toArray, List.set_cons_zero, List.set_cons_succ])
        refine wpAnyH_take (i := 1) (oi := { dst := some 26, op := Op.nilCheck (Operand.tmp 25), type := 0, pos := "step.go:28", after := #[{ on := 0, ground := Ground.data }], guard := none }) (v := ?_) rfl (by kernel_rfl) (by kernel_rfl) (by kernel_rfl) (fun _ _ _ h => h) (Or.inl ⟨by rfl, ?_⟩) (by assumption) ?_
        rotate_left
        · intro wz hSz; (try dsimp only at hSz); go_simp; all_goals (with_reducible rfl)
        (try simp only [Act.put, List.setIfInBounds_toArray, List.set_cons_zero, List.set_cons_succ])
        refine wpAnyH_take (i := 2) (oi := { dst := some 27, op := Op.fieldAddr 87 (Operand.tmp 26) 3, type := 0, pos := "step.go:28", after := #[{ on := 1, ground := Ground.data }], guard := none }) (v := ?_) rfl (by kernel_rfl) (by kernel_rfl) (by kernel_rfl) (fun _ _ _ h => h) (Or.inl ⟨by rfl, ?_⟩) (by assumption) ?_
        rotate_left
        · intro wz hSz; (try dsimp only at hSz); go_simp; all_goals (with_reducible rfl)
        (try simp only [Act.put, List.setIfInBounds_toArray, List.set_cons_zero, List.set_cons_succ])
        refine wpAnyH_take (i := 3) (oi := { dst := some 28, op := Op.load 34 (Operand.tmp 27), type := 34, pos := "step.go:28", after := #[{ on := 2, ground := Ground.data }], guard := none }) (v := ?_) rfl (by kernel_rfl) (by kernel_rfl) (by kernel_rfl) (fun _ _ _ h => h) (Or.inl ⟨by rfl, ?_⟩) (by assumption) ?_
        rotate_left
        · intro wz hSz; (try dsimp only at hSz); go_simp; all_goals (with_reducible rfl)
        (try simp only [Act.put, List.setIfInBounds_toArray, List.set_cons_zero, List.set_cons_succ])
        refine wpAnyH_take (i := 4) (oi := { dst := some 29, op := Op.move (Operand.tmp 3), type := 3, pos := "step.go:28", after := #[], guard := none }) (v := ?_) rfl (by kernel_rfl) (by kernel_rfl) (by kernel_rfl) (fun _ _ _ h => h) (Or.inl ⟨by rfl, ?_⟩) (by assumption) ?_
        rotate_left
        · intro wz hSz; (try dsimp only at hSz); go_simp; all_goals (with_reducible rfl)
        (try simp only [Act.put, List.setIfInBounds_toArray, List.set_cons_zero, List.set_cons_succ])
        refine wpAnyH_take (i := 5) (oi := { dst := some 30, op := Op.move (Operand.tmp 4), type := 3, pos := "step.go:28", after := #[], guard := none }) (v := ?_) rfl (by kernel_rfl) (by kernel_rfl) (by kernel_rfl) (fun _ _ _ h => h) (Or.inl ⟨by rfl, ?_⟩) (by assumption) ?_
        rotate_left
        · intro wz hSz; (try dsimp only at hSz); go_simp; all_goals (with_reducible rfl)
        (try simp only [Act.put, List.setIfInBounds_toArray, List.set_cons_zero, List.set_cons_succ])
        refine wpAnyH_take (i := 6) (oi := { dst := some 31, op := Op.indexAddr 95 (Operand.tmp 2) (Operand.tmp 30), type := 0, pos := "step.go:28", after := #[{ on := 5, ground := Ground.data }], guard := none }) (v := ?_) rfl (by kernel_rfl) (by kernel_rfl) (by kernel_rfl) (fun _ _ _ h => h) (Or.inl ⟨by rfl, ?_⟩) (by assumption) ?_
        rotate_left
        · intro wz hSz; (try dsimp only at hSz); go_simp; all_goals (with_reducible rfl)
        (try simp only [Act.put, List.setIfInBounds_toArray, List.set_cons_zero, List.set_cons_succ])
        refine wpAnyH_take (i := 7) (oi := { dst := some 32, op := Op.load 94 (Operand.tmp 31), type := 94, pos := "step.go:28", after := #[{ on := 6, ground := Ground.data }], guard := none }) (v := ?_) rfl (by kernel_rfl) (by kernel_rfl) (by kernel_rfl) (fun _ _ _ h => h) (Or.inl ⟨by rfl, ?_⟩) (by assumption) ?_
        rotate_left
        · intro wz hSz; (try dsimp only at hSz); go_simp; all_goals (with_reducible rfl)
        (try simp only [Act.put, List.setIfInBounds_toArray, List.set_cons_zero, List.set_cons_succ])
        refine wpAnyH_take (i := 8) (oi := { dst := some 33, op := Op.move (Operand.tmp 3), type := 3, pos := "step.go:28", after := #[], guard := none }) (v := ?_) rfl (by kernel_rfl) (by kernel_rfl) (by kernel_rfl) (fun _ _ _ h => h) (Or.inl ⟨by rfl, ?_⟩) (by assumption) ?_
        rotate_left
        · intro wz hSz; (try dsimp only at hSz); go_simp; all_goals (with_reducible rfl)
        (try simp only [Act.put, List.setIfInBounds_toArray, List.set_cons_zero, List.set_cons_succ])
        refine wpAnyH_ready (rs := [9]) (by kernel_rfl) (by simp) ?_
        refine AllReadyH.cons (o := { dst := some 34, op := Op.call { callee := Callee.value (Operand.tmp 32), args := #[Operand.tmp 33], argTypes := #[3] }, type := 3, pos := "step.go:28", after := #[{ on := 7, ground := Ground.data }, { on := 8, ground := Ground.data }], guard := none }) rfl (fun K hK => ?_) AllReadyH.nil
        go_simp
        (go_at_call 59; (with_reducible refine Calls.mono (hF3 _ (by exact SPd)) ?_); rintro e w2 ⟨rfl, hb2⟩; have Bx2 := Bx.drew.below hb2; have Dx2 := Dx.drew.below hb2; have own2 := own_bel own.drew hb2; have O2 := O.drew.below hb2; obtain ⟨y0, z0⟩ := own_some own2 k (by omega); have hfz := own2.frozenAt)
        go_wp2_with fail
        refine hK.out _ _ ?_ (fun hHeld => ?_)
        · (try dsimp only)
          exact ⟨has7 Bx2, has4 Dx2⟩
        clear hK K
        (try simp only [Act.put, List.setIfInBounds_toArray, List.set_cons_zero, List.set_cons_succ])
        refine wpAnyH_take (i := 10) (oi := { dst := some 35, op := Op.indexAddr 34 (Operand.tmp 28) (Operand.tmp 29), type := 0, pos := "step.go:28", after := #[{ on := 3, ground := Ground.data }, { on := 4, ground := Ground.data }, { on := 0, ground := Ground.phase }, { on := 1, ground := Ground.phase }, { on := 2, ground := Ground.phase }, { on := 3, ground := Ground.phase }, { on := 4, ground := Ground.phase }, { on := 5, ground := Ground.phase }, { on := 6, ground := Ground.phase }, { on := 7, ground := Ground.phase }, { on := 8, ground := Ground.phase }, { on := 9, ground := Ground.phase }], guard := none }) (v := ?_) rfl (by kernel_rfl) (by kernel_rfl) (by kernel_rfl) (fun _ _ _ h => h) (Or.inl ⟨by rfl, ?_⟩) (by assumption) ?_
        rotate_left
        · intro wz hSz; (try dsimp only at hSz); go_simp; all_goals (with_reducible rfl)
        (try simp only [Act.put, List.setIfInBounds_toArray, List.set_cons_zero, List.set_cons_succ])
        refine wpAnyH_ready (rs := [11]) (by kernel_rfl) (by simp) ?_
        refine AllReadyH.cons (o := { dst := none, op := Op.store 3 (Operand.tmp 35) (Operand.tmp 34), type := 0, pos := "step.go:28", after := #[{ on := 10, ground := Ground.data }, { on := 9, ground := Ground.data }, { on := 9, ground := Ground.chain }, { on := 0, ground := Ground.phase }, { on := 1, ground := Ground.phase }, { on := 2, ground := Ground.phase }, { on := 3, ground := Ground.phase }, { on := 4, ground := Ground.phase }, { on := 5, ground := Ground.phase }, { on := 6, ground := Ground.phase }, { on := 7, ground := Ground.phase }, { on := 8, ground := Ground.phase }, { on := 9, ground := Ground.phase }], guard := none }) rfl (fun K hK => ?_) AllReadyH.nil
        go_simp
        refine hK.out _ _ ?_ (fun hHeld => ?_)
        · (try dsimp only)
          exact ⟨has7 (Bx2.far (Ne.symm hrb) _), has4 (Dx2.far (by omega) _)⟩
        clear hK K
        (try simp only [Act.put, List.setIfInBounds_toArray, List.set_cons_zero, List.set_cons_succ])
        refine wpAnyH_done (by kernel_rfl) ?_ _
        refine NoPanic.normal ?_
        obtain ⟨n1, n2⟩ := hfin _ w2 al'.symm own2
        go_wp2_with fail
        go_roundw
        case rel => exact ⟨k + 1, _, by omega, by go_num, n1, n2, Bx2.far (Ne.symm hrb) _, Dx2.far (by omega) _, O2.set rfl _⟩
        case measure => simp [intOf]; omega
    · have t1 : ¬ (k : Int) < (A.length : Int) := by omega
      have e : valR G.length f = valR G.length (alF G A I M) := valR_ext fun j hj => fil.out j (by have := la.out; omega)
      rw [e] at own
      clear kA
      go_wp2
      refine ⟨rfl, .tuple #[], ?_, rfl, O, own⟩
      simp [results, Try.results49, go_sem]
end Go.Proofs.Ythflpnahifpdnaa
