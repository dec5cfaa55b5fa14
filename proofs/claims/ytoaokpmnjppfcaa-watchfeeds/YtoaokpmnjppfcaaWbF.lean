import Derived.Deep.DeepCutAuto
import Derived.Test.YtoaokpmnjppfcaaWbE
namespace Go.Proofs.Ytoaokpmnjppfcaa
open Go.RowKit
set_option linter.unusedVariables false
set_option linter.unusedSimpArgs false

/-- What stands while the reference looks for the first alarm. -/
structure FR (w wx : World) (z : Al) : Prop where
  rs : Has wx w.heap.size #[.int .i64 0, .int .i64 0, .int .i64 0, .int .i64 0]
  x : Has wx (w.heap.size + 1) #[.int .i64 z.k, .int .i64 z.t, .int .i64 z.a, .int .i64 z.b]
  be : Below w.heap.size w wx
theorem FR.below {w wx wy : World} {z : Al} (h : FR w wx z) (hb : Below wx.heap.size wx wy) : FR w wy z := ⟨h.rs.below hb, h.x.below hb, h.be.trans (hb.mono h.be.size)⟩
theorem FR.drew {w wx : World} {z : Al} (h : FR w wx z) : FR w wx.drew z := h.below (Below.refl _ _).drew
theorem FR.put {w wx : World} {z : Al} (h : FR w wx z) (y : Al) : FR w ((((wx.setCell ⟨w.heap.size + 1, 0, none⟩ (.int .i64 y.k)).setCell ⟨w.heap.size + 1, 1, none⟩ (.int .i64 y.t)).setCell ⟨w.heap.size + 1, 2, none⟩ (.int .i64 y.a)).setCell ⟨w.heap.size + 1, 3, none⟩ (.int .i64 y.b)) y :=
  ⟨far4 h.rs (by omega), h.x.set4x _ _ _ _, belR h.be (by omega) _ _ _ _⟩
theorem ga_get {G : List Gp} {C : List Cf} (hg : gridB G C = true) (k : Nat) (hk : k < G.length) : 0 ≤ (G.getD k gp0).amber ∧ (G.getD k gp0).amber ≤ 3600 ∧ 0 ≤ (G.getD k gp0).lead ∧ (G.getD k gp0).lead ≤ 3600 := by
  have hb := grid_gp hg k hk
  rw [List.getD_eq_getElem?_getD, List.getElem?_eq_getElem hk]
  simp [gpB, timeB, amberB] at hb
  simp only [Option.getD_some]
  omega
set_option maxRecDepth 100000 in
set_option maxHeartbeats 8000000 in
theorem firstR_any {w : World} {b rb : Nat} {vg vc vn vt : Value} {G : List Gp} {C : List Cf} {tk : Int} {la : ByteArray} {ru gn : Nat → Int} {tr : Al} {L : List Al} {f : Nat → Lm} (hm : Rm w b rb vg vc vn vt G C tk la ru gn tr L) (s : ByteArray) (hg : gridB G C = true) (hr : Rel G.length f tk la ru gn) (lC : C.length ≤ 4398046511000) (hb1 : ∀ k, (0 ≤ (f k).lo ∧ (f k).lo ≤ 4611686018427387904) ∧ (f k).fr ≤ 4611686018427387904) (htk : tk ≤ 4611686018427387904) :
    Calls Try.prog 32 #[.pointer (some ⟨b, 0, none⟩), .string s] w fun e w' => e = .returned (.agg #[.int .i64 (ffF G C f tk s).k, .int .i64 (ffF G C f tk s).t, .int .i64 (ffF G C f tk s).a, .int .i64 (ffF G C f tk s).b]) ∧ Below w.heap.size w w' := by
  have n64 := grid_len hg
  obtain ⟨⟨ga, gc, e1⟩, ⟨ca, qc, e2⟩, ⟨na, nc, e3⟩, ta, tc, e4⟩ := hm.vs
  obtain ⟨a0, c0, e0, kC⟩ := hm.cf
  rw [e2] at e0
  injection e0 with e0a _ _
  subst e0a
  have h43 := fun W => wrong_any G.length s W n64
  have h44 := fun (x y : Al) (W : World) => least_any x y W
  have MB := hm.ob
  rw [e1, e2, e3, e4] at MB
  obtain ⟨_, j1, _⟩ := id MB
  have hbl := hm.ob.1
  obtain ⟨n, hn⟩ : ∃ n, G.length = n := ⟨_, rfl⟩
  obtain ⟨m, hmm⟩ : ∃ m, C.length = m := ⟨_, rfl⟩
  have hn' : Hid (G.length = n) := hn
  have hm' : Hid (C.length = m) := hmm
  by_cases hw : wrF G.length s = -2
  · obtain ⟨hs, hl⟩ := wr_ok hw
    rw [hw] at h43
    have eF : ffF G C f tk s = rcN C f tk s (rgN G f tk s G.length) C.length := by unfold ffF; rw [if_pos hw]
    rw [eF]
    have h45 : ∀ (k : Nat), k < G.length → ∀ W, Below w.heap.size w W → Calls Try.prog 45 #[.pointer (some ⟨b, 0, none⟩), .int .i64 (k : Int), .int .u8 (ltr s k)] W fun e w' => e = .returned (.agg #[.int .i64 (gaF (G.getD k gp0) k tk (f k) (ltr s k)).k, .int .i64 (gaF (G.getD k gp0) k tk (f k) (ltr s k)).t, .int .i64 (gaF (G.getD k gp0) k tk (f k) (ltr s k)).a, .int .i64 (gaF (G.getD k gp0) k tk (f k) (ltr s k)).b]) ∧ Below W.heap.size W w' := fun k hk W hW =>
      group_any (hm.below hW) k (ltr s k) (f k) hk n64 hr.t0 (fun h => ⟨by have := (hr.p h).1; omega, ((hr.p h).2 k hk).1⟩) (hr.ru k hk) (hb1 k).1 (ga_get hg k hk)
    have h46 : ∀ (ka kb : Nat), ka < G.length → kb < G.length → ∀ W, Below w.heap.size w W → Calls Try.prog 46 #[.pointer (some ⟨b, 0, none⟩), .string s, .int .i64 (ka : Int), .int .i64 (kb : Int)] W fun e w' => e = .returned (.bool (boB f tk s ka kb)) ∧ w' = W := fun ka kb ha hb W hW => both_any (hm.below hW) s ka kb rfl hr ha hb hs hl
    have h47 : ∀ (ka kb : Nat) (q : Int), ka < G.length → kb < G.length → ∀ W, Below w.heap.size w W → Calls Try.prog 47 #[.pointer (some ⟨b, 0, none⟩), .string s, .int .i64 (ka : Int), .int .i64 (kb : Int), .int .i64 q] W fun e w' => e = .returned (.agg #[.int .i64 (erA f tk s ka kb q).k, .int .i64 (erA f tk s ka kb q).t, .int .i64 (erA f tk s ka kb q).a, .int .i64 (erA f tk s ka kb q).b]) ∧ Below W.heap.size W w' := fun ka kb q ha hb W hW => earlyR_any (hm.below hW) s ka kb q rfl hr ha hb hs (fun k _ => (hb1 k).2) htk
    have hcf := fun i hi => grid_cf hg i hi
    have MB0 := (MB.alloc (.cells #[.int .i64 0, .int .i64 0, .int .i64 0, .int .i64 0] 43)).alloc (.cells #[.int .i64 0, .int .i64 0, .int .i64 0, .int .i64 0] 43)
    have F0 : FR w ((w.alloc (.cells #[.int .i64 0, .int .i64 0, .int .i64 0, .int .i64 0] 43)).alloc (.cells #[.int .i64 0, .int .i64 0, .int .i64 0, .int .i64 0] 43)) al0 := ⟨(Has.new _ _ _ rfl).alloc _, Has.new _ _ _ (by simp), belA⟩
    rw [hn] at h43 MB0 j1 hs
    rw [hmm] at MB0 j1
    have MBn := MB
    rw [hn, hmm] at MBn
    rw [hn, hmm]
    have hsn : Hid (s.size = n) := hs
    clear hn hmm hw eF hs MB
    have hsn2 : n ≤ s.size := by have := hsn.out; omega
    go_enter Try.func32, Try.ntmps32
    go_upto_region 5 with (go_at_call 43; (with_reducible refine Calls.mono (h43 _) ?_); rintro e w2 ⟨rfl, rfl⟩)
    generalize ((w.alloc (.cells #[.int .i64 0, .int .i64 0, .int .i64 0, .int .i64 0] 43)).alloc (.cells #[.int .i64 0, .int .i64 0, .int .i64 0, .int .i64 0] 43)) = W0 at *
    clear j1 h43
    obtain ⟨_, j1, _⟩ := id MB0
    have hM : ∀ W, Below w.heap.size w W → Has W b #[.slice ga n gc, .slice ca m qc, .int .i64 tk, .string la, .slice (some ⟨rb, 0, none⟩) n n, .slice na n nc, .int .i64 tr.k, .int .i64 tr.t, .int .i64 tr.a, .int .i64 tr.b, .slice ta L.length tc] := fun W hW => MBn.below hW
    clear MB0 j1
    obtain ⟨_, j1, _⟩ := id (hM _ F0.be)
    go_wp2
    go_loopg [7] n (fun gk v wr => ∃ k : Nat, k + gk = n ∧ v = .int .i64 (k : Int) ∧ Hid (FR w wr (rgN G f tk s k)))
    case atStart => exact ⟨0, by omega, rfl, F0⟩
    case round =>
      clear F0 j1
      obtain ⟨k, hk, rfl, hS⟩ := hrel
      obtain ⟨_, j1, _⟩ := id (hM wr hS.out.be)
      cases gk with
      | zero =>
        obtain rfl : k = n := by omega
        have hS1 := hS
        clear hS h45
        go_wp2
        go_loopg [8] m (fun gk v wr => ∃ q : Nat, q + gk = m ∧ v = .int .i64 (q : Int) ∧ Hid (FR w wr (rcN C f tk s (rgN G f tk s k) q)))
        case atStart => exact ⟨0, by omega, rfl, hS1⟩
        case round =>
        clear hS1 j1
        obtain ⟨q, hq, rfl, hS⟩ := hrel
        obtain ⟨_, j1, _⟩ := id (hM wr hS.out.be)
        cases gk with
        | zero =>
          obtain rfl : q = m := by omega
          have hF := hS.out
          obtain ⟨Z, hZ⟩ : ∃ Z, rcN C f tk s (rgN G f tk s k) q = Z := ⟨_, rfl⟩
          have hv : Ending.returned (.agg #[.int .i64 Z.k, .int .i64 Z.t, .int .i64 Z.a, .int .i64 Z.b]) = .returned (.agg #[.int .i64 (rcN C f tk s (rgN G f tk s k) q).k, .int .i64 (rcN C f tk s (rgN G f tk s k) q).t, .int .i64 (rcN C f tk s (rgN G f tk s k) q).a, .int .i64 (rcN C f tk s (rgN G f tk s k) q).b]) := by rw [hZ]
          rw [hZ] at hF
          clear hS hZ h46 h47
          obtain ⟨_, i1, f1⟩ := id hF.rs
          obtain ⟨_, i2, _⟩ := id hF.x
          go_wp2
          exact bodyPost_ret (v := .agg #[.int .i64 Z.k, .int .i64 Z.t, .int .i64 Z.a, .int .i64 Z.b]) (by simp [results, Try.results32, go_sem, i1]) rfl ⟨hv, belR hF.be (Nat.le_refl _) _ _ _ _⟩
        | succ g =>
        have hqm : q < m := by omega
        have hqC : q < C.length := by have := hm'.out; omega
        obtain ⟨g0, o0, rfl, hg0, -, P⟩ := kC.resolve_left (by intro e; rw [e] at hqC; simp at hqC)
        have p0 := (hS.out.be.cell (p := ⟨g0, _, none⟩) hg0).trans (P q hqC 0 _ rfl)
        have p1 := (hS.out.be.cell (p := ⟨g0, _, none⟩) hg0).trans (P q hqC 1 _ rfl)
        have p2 := (hS.out.be.cell (p := ⟨g0, _, none⟩) hg0).trans (P q hqC 2 _ rfl)
        have p3 := (hS.out.be.cell (p := ⟨g0, _, none⟩) hg0).trans (P q hqC 3 _ rfl)
        simp only [Nat.add_zero] at p0
        have okc := hcf q hqC
        rw [hn'.out] at okc
        have eC : C.getD q cf0 = C[q] := by rw [List.getD_eq_getElem?_getD, List.getElem?_eq_getElem hqC]; rfl
        have eN : rcN C f tk s (rgN G f tk s k) (q + 1) = pcF f tk s (rcN C f tk s (rgN G f tk s k) q) C[q] := by rw [← eC]; rfl
        generalize hc : C[q] = c at *
        obtain ⟨ka, hka⟩ : ∃ ka : Nat, c.a = (ka : Int) := ⟨c.a.toNat, by omega⟩
        obtain ⟨kb, hkb⟩ : ∃ kb : Nat, c.b = (kb : Int) := ⟨c.b.toNat, by omega⟩
        have kaG : ka < G.length := by have := hn'.out; omega
        have kbG : kb < G.length := by have := hn'.out; omega
        obtain ⟨X, hX⟩ : ∃ X, rcN C f tk s (rgN G f tk s k) q = X := ⟨_, rfl⟩
        rw [hX] at hS eN
        have h46' := h46 ka kb kaG kbG
        have hE1 := h47 ka kb c.ab kaG kbG
        have hE2 := h47 kb ka c.ba kbG kaG
        have eP : pcF f tk s X c = leF (leF (if boB f tk s ka kb = true then leF X ⟨7, tk, ka, kb⟩ else X) (erA f tk s ka kb c.ab)) (erA f tk s kb ka c.ba) := by
          unfold pcF
          rw [hka, hkb]
          rfl
        rw [eP] at eN
        generalize boB f tk s ka kb = BB at *
        generalize erA f tk s ka kb c.ab = E1 at *
        generalize erA f tk s kb ka c.ba = E2 at *
        rw [hka] at p0
        rw [hkb] at p1
        generalize c.ab = cab at *
        generalize c.ba = cba at *
        have eN' : Hid (rcN C f tk s (rgN G f tk s k) (q + 1) = leF (leF (if BB = true then leF X ⟨7, tk, ka, kb⟩ else X) E1) E2) := eN
        have hF0 := hS.out
        have hC0 : Has (wr.alloc (.cells #[.int .i64 (ka : Nat), .int .i64 (kb : Nat), .int .i64 cab, .int .i64 cba] 68)) wr.heap.size #[.int .i64 (ka : Nat), .int .i64 (kb : Nat), .int .i64 cab, .int .i64 cba] := Has.new _ _ _ rfl
        have nC0 : wr.heap.size ≠ w.heap.size + 1 := by have := hF0.x.1; omega
        have hF1 := hF0.below (belN1 (o1 := .cells #[.int .i64 (ka : Nat), .int .i64 (kb : Nat), .int .i64 cab, .int .i64 cba] 68))
        clear hS P eP eN okc eC hka hkb hc hX h46 h47 hF0
        go_upto_region 13 with fail
        generalize hpc : wr.heap.size = pc at *
        generalize (wr.alloc (.cells #[.int .i64 (ka : Nat), .int .i64 (kb : Nat), .int .i64 cab, .int .i64 cba] 68)) = W at *
        clear j1 hpc p0 p1 p2 p3
        obtain ⟨_, j1, _⟩ := id (hM W hF1.be)
        obtain ⟨_, j2, _⟩ := id hC0
        go_upto_if 69 with (go_at_call 46; (with_reducible refine Calls.mono (h46' _ hF1.be) ?_); rintro e w9 ⟨rfl, rfl⟩)
        obtain ⟨Y1, hY1⟩ : ∃ Y1, (if BB = true then leF X ⟨7, tk, ka, kb⟩ else X) = Y1 := ⟨_, rfl⟩
        have hY1' : Hid ((if BB = true then leF X ⟨7, tk, ka, kb⟩ else X) = Y1) := hY1
        rw [hY1] at eN'
        clear hY1
        go_cut [] (fun wx => FR w wx Y1 ∧ Has wx pc #[.int .i64 (ka : Nat), .int .i64 (kb : Nat), .int .i64 cab, .int .i64 cba])
        case first =>
          cases BB with
          | false =>
            have e : X = Y1 := by have := hY1'.out; rwa [if_neg (by decide)] at this
            subst e
            go_wp2
            go_meet
            exact ⟨hF1, hC0⟩
          | true =>
            have e : leF X ⟨7, tk, ka, kb⟩ = Y1 := by have := hY1'.out; rwa [if_pos rfl] at this
            have h44' := h44 X ⟨7, tk, ka, kb⟩
            rw [e] at h44'
            dsimp only at h44'
            clear e hY1'
            have hF := hF1
            have hC := hC0
            have nC := nC0
            clear hF1 hC0
            go_upto_region 14 with fail
            refine wp_region_noPanic ?_
            refine wp_region_held_drew (S := fun w' => w'.cell? ⟨b, 2, none⟩ = some (.int .i64 tk) ∧ w'.cell? ⟨pc, 0, none⟩ = some (.int .i64 (ka : Nat)) ∧ w'.cell? ⟨pc, 1, none⟩ = some (.int .i64 (kb : Nat))) (by kernel_rfl) ?_ (fun hHeld => ?_)
            · (try dsimp only)
              exact ⟨(hM _ hF.be).reads (i := 2) rfl, hC.reads rfl, hC.reads rfl⟩
            refine wpAnyH_take (i := 1) (oi := { dst := some 71, op := Op.move (Operand.tmp 0), type := 32, pos := "ref.go:332", after := #[], guard := none }) (v := ?_) rfl (by kernel_rfl) (by kernel_rfl) (by kernel_rfl) (fun _ _ _ h => h) (Or.inl ⟨by rfl, ?_⟩) (by assumption) ?_
            rotate_left
            · intro wz hSz; (try dsimp only at hSz); go_simp; all_goals (with_reducible rfl)
            (try simp only [Act.put, List.setIfInBounds_toArray, List.set_cons_zero, List.set_cons_succ])
            refine wpAnyH_take (i := 2) (oi := { dst := some 72, op := Op.nilCheck (Operand.tmp 71), type := 0, pos := "ref.go:332", after := #[{ on := 1, ground := Ground.data }], guard := none }) (v := ?_) rfl (by kernel_rfl) (by kernel_rfl) (by kernel_rfl) (fun _ _ _ h => h) (Or.inl ⟨by rfl, ?_⟩) (by assumption) ?_
            rotate_left
            · intro wz hSz; (try dsimp only at hSz); go_simp; all_goals (with_reducible rfl)
            (try simp only [Act.put, List.setIfInBounds_toArray, List.set_cons_zero, List.set_cons_succ])
            refine wpAnyH_take (i := 3) (oi := { dst := some 73, op := Op.fieldAddr 64 (Operand.tmp 72) 1, type := 0, pos := "ref.go:332", after := #[{ on := 2, ground := Ground.data }], guard := none }) (v := ?_) rfl (by kernel_rfl) (by kernel_rfl) (by kernel_rfl) (fun _ _ _ h => h) (Or.inl ⟨by rfl, ?_⟩) (by assumption) ?_
            rotate_left
            · intro wz hSz; (try dsimp only at hSz); go_simp; all_goals (with_reducible rfl)
            (try simp only [Act.put, List.setIfInBounds_toArray, List.set_cons_zero, List.set_cons_succ])
            refine wpAnyH_take (i := 4) (oi := { dst := some 74, op := Op.load 3 (Operand.tmp 73), type := 3, pos := "ref.go:332", after := #[{ on := 3, ground := Ground.data }], guard := none }) (v := ?_) rfl (by kernel_rfl) (by kernel_rfl) (by kernel_rfl) (fun _ _ _ h => h) (Or.inl ⟨by rfl, ?_⟩) (by assumption) ?_
            rotate_left
            · intro wz hSz; (try dsimp only at hSz); go_simp; all_goals (with_reducible rfl)
            (try simp only [Act.put, List.setIfInBounds_toArray, List.set_cons_zero, List.set_cons_succ])
            refine wpAnyH_take (i := 5) (oi := { dst := some 75, op := Op.fieldAddr 68 (Operand.tmp 9) 0, type := 0, pos := "ref.go:332", after := #[], guard := none }) (v := ?_) rfl (by kernel_rfl) (by kernel_rfl) (by kernel_rfl) (fun _ _ _ h => h) (Or.inl ⟨by rfl, ?_⟩) (by assumption) ?_
            rotate_left
            · intro wz hSz; (try dsimp only at hSz); go_simp; all_goals (with_reducible rfl)
            (try simp only [Act.put, List.setIfInBounds_toArray, List.set_cons_zero, List.set_cons_succ])
            refine wpAnyH_take (i := 6) (oi := { dst := some 76, op := Op.load 3 (Operand.tmp 75), type := 3, pos := "ref.go:332", after := #[{ on := 5, ground := Ground.data }], guard := none }) (v := ?_) rfl (by kernel_rfl) (by kernel_rfl) (by kernel_rfl) (fun _ _ _ h => h) (Or.inl ⟨by rfl, ?_⟩) (by assumption) ?_
            rotate_left
            · intro wz hSz; (try dsimp only at hSz); go_simp; all_goals (with_reducible rfl)
            (try simp only [Act.put, List.setIfInBounds_toArray, List.set_cons_zero, List.set_cons_succ])
            refine wpAnyH_take (i := 7) (oi := { dst := some 77, op := Op.fieldAddr 68 (Operand.tmp 9) 1, type := 0, pos := "ref.go:332", after := #[], guard := none }) (v := ?_) rfl (by kernel_rfl) (by kernel_rfl) (by kernel_rfl) (fun _ _ _ h => h) (Or.inl ⟨by rfl, ?_⟩) (by assumption) ?_
            rotate_left
            · intro wz hSz; (try dsimp only at hSz); go_simp; all_goals (with_reducible rfl)
            (try simp only [Act.put, List.setIfInBounds_toArray, List.set_cons_zero, List.set_cons_succ])
            refine wpAnyH_take (i := 8) (oi := { dst := some 78, op := Op.load 3 (Operand.tmp 77), type := 3, pos := "ref.go:332", after := #[{ on := 7, ground := Ground.data }], guard := none }) (v := ?_) rfl (by kernel_rfl) (by kernel_rfl) (by kernel_rfl) (fun _ _ _ h => h) (Or.inl ⟨by rfl, ?_⟩) (by assumption) ?_
            rotate_left
            · intro wz hSz; (try dsimp only at hSz); go_simp; all_goals (with_reducible rfl)
            (try simp only [Act.put, List.setIfInBounds_toArray, List.set_cons_zero, List.set_cons_succ])
            refine wpAnyH_take (i := 9) (oi := { dst := some 79, op := Op.build 43 #[(0, Operand.const (Value.int IntKind.i64 7)), (1, Operand.tmp 74), (2, Operand.tmp 76), (3, Operand.tmp 78)], type := 43, pos := "ref.go:332", after := #[{ on := 4, ground := Ground.data }, { on := 6, ground := Ground.data }, { on := 8, ground := Ground.data }], guard := none }) (v := ?_) rfl (by kernel_rfl) (by kernel_rfl) (by kernel_rfl) (fun _ _ _ h => h) (Or.inl ⟨by rfl, ?_⟩) (by assumption) ?_
            rotate_left
            · intro wz hSz; (try dsimp only at hSz); go_simp; all_goals (with_reducible rfl)
            (try simp only [Act.put, List.setIfInBounds_toArray, List.set_cons_zero, List.set_cons_succ])
            replace hF := hF.drew
            replace hC := hC.drew
            generalize w9.drew = V1 at *
            refine wpAnyH_ready (rs := [0]) (by kernel_rfl) (by simp) ?_
            refine AllReadyH.cons (o := { dst := some 70, op := Op.load 43 (Operand.tmp 6), type := 43, pos := "ref.go:332", after := #[], guard := none }) rfl (fun K hK => ?_) (AllReadyH.nil)
            · skip
              obtain ⟨_, i6, _⟩ := id hF.x
              go_simp
              refine hK.out _ _ ?_ (fun hHeld => ?_)
              · (try dsimp only)
                exact ⟨(hM _ hF.be).reads (i := 2) rfl, hC.reads rfl, hC.reads rfl⟩
              clear hK K
              (try simp only [Act.put, List.setIfInBounds_toArray, List.set_cons_zero, List.set_cons_succ])
              refine wpAnyH_ready (rs := [10]) (by kernel_rfl) (by simp) ?_
              refine AllReadyH.cons (o := { dst := some 80, op := Op.call { callee := Callee.value (Operand.func 44), args := #[Operand.tmp 70, Operand.tmp 79], argTypes := #[43, 43] }, type := 43, pos := "ref.go:332", after := #[{ on := 0, ground := Ground.data }, { on := 9, ground := Ground.data }], guard := none }) rfl (fun K hK => ?_) (AllReadyH.nil)
              go_simp
              go_at_call 44
              (with_reducible refine Calls.mono (h44' _) ?_)
              rintro e wl ⟨rfl, hbb⟩
              replace hF := hF.below hbb
              replace hC := hC.below hbb
              clear hbb
              go_wp2_with fail
              refine hK.out _ _ ?_ (fun hHeld => ?_)
              · (try dsimp only)
                exact ⟨(hM _ hF.be).reads (i := 2) rfl, hC.reads rfl, hC.reads rfl⟩
              clear hK K
              (try simp only [Act.put, List.setIfInBounds_toArray, List.set_cons_zero, List.set_cons_succ])
              obtain ⟨_, i6, f6⟩ := id hF.x
              refine wpAnyH_ready (rs := [11]) (by kernel_rfl) (by simp) ?_
              refine AllReadyH.cons (o := { dst := none, op := Op.store 43 (Operand.tmp 6) (Operand.tmp 80), type := 0, pos := "ref.go:332", after := #[{ on := 10, ground := Ground.data }, { on := 10, ground := Ground.chain }, { on := 0, ground := Ground.phase }, { on := 1, ground := Ground.phase }, { on := 2, ground := Ground.phase }, { on := 3, ground := Ground.phase }, { on := 4, ground := Ground.phase }, { on := 5, ground := Ground.phase }, { on := 6, ground := Ground.phase }, { on := 7, ground := Ground.phase }, { on := 8, ground := Ground.phase }, { on := 9, ground := Ground.phase }, { on := 10, ground := Ground.phase }], guard := none }) rfl (fun K hK => ?_) (AllReadyH.nil)
              go_simp
              have hF2 := hF.put Y1
              have hC2 := far4 hC (b := w.heap.size + 1) (x0 := .int .i64 Y1.k) (x1 := .int .i64 Y1.t) (x2 := .int .i64 Y1.a) (x3 := .int .i64 Y1.b) nC
              refine hK.out _ _ ?_ (fun hHeld => ?_)
              · (try dsimp only)
                exact ⟨(hM _ hF2.be).reads (i := 2) rfl, hC2.reads rfl, hC2.reads rfl⟩
              clear hK K
              (try simp only [Act.put, List.setIfInBounds_toArray, List.set_cons_zero, List.set_cons_succ])
              refine wpAnyH_done (by kernel_rfl) ?_ _
              refine NoPanic.normal ?_
              go_wp2_with fail
              go_meet
              exact ⟨hF2, hC2⟩

        case rest =>
        clear hF1 hC0 hY1' j1 j2 h46'
        obtain ⟨hF, hC⟩ := hcut
        have nC := nC0
        obtain ⟨Y2, hY2⟩ : ∃ Y, leF Y1 E1 = Y := ⟨_, rfl⟩
        have h44Y2 := h44 Y1 E1
        rw [hY2] at eN' h44Y2
        clear hY2
        go_upto_region 15 with fail
        go_cut [] (fun wx => FR w wx Y2 ∧ Has wx pc #[.int .i64 (ka : Nat), .int .i64 (kb : Nat), .int .i64 cab, .int .i64 cba])
        case first =>
          refine wp_region_noPanic ?_
          refine wp_region_held_drew (S := fun w' => w'.cell? ⟨pc, 0, none⟩ = some (.int .i64 (ka : Nat)) ∧ w'.cell? ⟨pc, 1, none⟩ = some (.int .i64 (kb : Nat)) ∧ w'.cell? ⟨pc, 2, none⟩ = some (.int .i64 cab)) (by kernel_rfl) ?_ (fun hHeld => ?_)
          · (try dsimp only)
            exact ⟨hC.reads rfl, hC.reads rfl, hC.reads rfl⟩
          refine wpAnyH_take (i := 1) (oi := { dst := some 82, op := Op.move (Operand.tmp 0), type := 32, pos := "ref.go:334", after := #[], guard := none }) (v := ?_) rfl (by kernel_rfl) (by kernel_rfl) (by kernel_rfl) (fun _ _ _ h => h) (Or.inl ⟨by rfl, ?_⟩) (by assumption) ?_
          rotate_left
          · intro wz hSz; (try dsimp only at hSz); go_simp; all_goals (with_reducible rfl)
          (try simp only [Act.put, List.setIfInBounds_toArray, List.set_cons_zero, List.set_cons_succ])
          refine wpAnyH_take (i := 2) (oi := { dst := some 83, op := Op.move (Operand.tmp 1), type := 9, pos := "ref.go:334", after := #[], guard := none }) (v := ?_) rfl (by kernel_rfl) (by kernel_rfl) (by kernel_rfl) (fun _ _ _ h => h) (Or.inl ⟨by rfl, ?_⟩) (by assumption) ?_
          rotate_left
          · intro wz hSz; (try dsimp only at hSz); go_simp; all_goals (with_reducible rfl)
          (try simp only [Act.put, List.setIfInBounds_toArray, List.set_cons_zero, List.set_cons_succ])
          refine wpAnyH_take (i := 3) (oi := { dst := some 84, op := Op.fieldAddr 68 (Operand.tmp 9) 0, type := 0, pos := "ref.go:334", after := #[], guard := none }) (v := ?_) rfl (by kernel_rfl) (by kernel_rfl) (by kernel_rfl) (fun _ _ _ h => h) (Or.inl ⟨by rfl, ?_⟩) (by assumption) ?_
          rotate_left
          · intro wz hSz; (try dsimp only at hSz); go_simp; all_goals (with_reducible rfl)
          (try simp only [Act.put, List.setIfInBounds_toArray, List.set_cons_zero, List.set_cons_succ])
          refine wpAnyH_take (i := 4) (oi := { dst := some 85, op := Op.load 3 (Operand.tmp 84), type := 3, pos := "ref.go:334", after := #[{ on := 3, ground := Ground.data }], guard := none }) (v := ?_) rfl (by kernel_rfl) (by kernel_rfl) (by kernel_rfl) (fun _ _ _ h => h) (Or.inl ⟨by rfl, ?_⟩) (by assumption) ?_
          rotate_left
          · intro wz hSz; (try dsimp only at hSz); go_simp; all_goals (with_reducible rfl)
          (try simp only [Act.put, List.setIfInBounds_toArray, List.set_cons_zero, List.set_cons_succ])
          refine wpAnyH_take (i := 5) (oi := { dst := some 86, op := Op.fieldAddr 68 (Operand.tmp 9) 1, type := 0, pos := "ref.go:334", after := #[], guard := none }) (v := ?_) rfl (by kernel_rfl) (by kernel_rfl) (by kernel_rfl) (fun _ _ _ h => h) (Or.inl ⟨by rfl, ?_⟩) (by assumption) ?_
          rotate_left
          · intro wz hSz; (try dsimp only at hSz); go_simp; all_goals (with_reducible rfl)
          (try simp only [Act.put, List.setIfInBounds_toArray, List.set_cons_zero, List.set_cons_succ])
          refine wpAnyH_take (i := 6) (oi := { dst := some 87, op := Op.load 3 (Operand.tmp 86), type := 3, pos := "ref.go:334", after := #[{ on := 5, ground := Ground.data }], guard := none }) (v := ?_) rfl (by kernel_rfl) (by kernel_rfl) (by kernel_rfl) (fun _ _ _ h => h) (Or.inl ⟨by rfl, ?_⟩) (by assumption) ?_
          rotate_left
          · intro wz hSz; (try dsimp only at hSz); go_simp; all_goals (with_reducible rfl)
          (try simp only [Act.put, List.setIfInBounds_toArray, List.set_cons_zero, List.set_cons_succ])
          refine wpAnyH_take (i := 7) (oi := { dst := some 88, op := Op.fieldAddr 68 (Operand.tmp 9) 2, type := 0, pos := "ref.go:334", after := #[], guard := none }) (v := ?_) rfl (by kernel_rfl) (by kernel_rfl) (by kernel_rfl) (fun _ _ _ h => h) (Or.inl ⟨by rfl, ?_⟩) (by assumption) ?_
          rotate_left
          · intro wz hSz; (try dsimp only at hSz); go_simp; all_goals (with_reducible rfl)
          (try simp only [Act.put, List.setIfInBounds_toArray, List.set_cons_zero, List.set_cons_succ])
          refine wpAnyH_take (i := 8) (oi := { dst := some 89, op := Op.load 3 (Operand.tmp 88), type := 3, pos := "ref.go:334", after := #[{ on := 7, ground := Ground.data }], guard := none }) (v := ?_) rfl (by kernel_rfl) (by kernel_rfl) (by kernel_rfl) (fun _ _ _ h => h) (Or.inl ⟨by rfl, ?_⟩) (by assumption) ?_
          rotate_left
          · intro wz hSz; (try dsimp only at hSz); go_simp; all_goals (with_reducible rfl)
          (try simp only [Act.put, List.setIfInBounds_toArray, List.set_cons_zero, List.set_cons_succ])
          replace hF := hF.drew
          replace hC := hC.drew
          generalize wc.drew = V1 at *
          refine wpAnyH_ready (rs := [0, 9]) (by kernel_rfl) (by simp) ?_
          refine AllReadyH.cons (o := { dst := some 81, op := Op.load 43 (Operand.tmp 6), type := 43, pos := "ref.go:334", after := #[], guard := none }) rfl (fun K hK => ?_) (AllReadyH.cons (o := { dst := some 90, op := Op.call { callee := Callee.value (Operand.func 47), args := #[Operand.tmp 82, Operand.tmp 83, Operand.tmp 85, Operand.tmp 87, Operand.tmp 89], argTypes := #[32, 9, 3, 3, 3] }, type := 43, pos := "ref.go:334", after := #[{ on := 1, ground := Ground.data }, { on := 2, ground := Ground.data }, { on := 4, ground := Ground.data }, { on := 6, ground := Ground.data }, { on := 8, ground := Ground.data }], guard := none }) rfl (fun K hK => ?_) (AllReadyH.nil))
          · skip
            obtain ⟨_, i6, _⟩ := id hF.x
            go_simp
            refine hK.out _ _ ?_ (fun hHeld => ?_)
            · (try dsimp only)
              exact ⟨hC.reads rfl, hC.reads rfl, hC.reads rfl⟩
            clear hK K
            (try simp only [Act.put, List.setIfInBounds_toArray, List.set_cons_zero, List.set_cons_succ])
            refine wpAnyH_ready (rs := [9]) (by kernel_rfl) (by simp) ?_
            refine AllReadyH.cons (o := { dst := some 90, op := Op.call { callee := Callee.value (Operand.func 47), args := #[Operand.tmp 82, Operand.tmp 83, Operand.tmp 85, Operand.tmp 87, Operand.tmp 89], argTypes := #[32, 9, 3, 3, 3] }, type := 43, pos := "ref.go:334", after := #[{ on := 1, ground := Ground.data }, { on := 2, ground := Ground.data }, { on := 4, ground := Ground.data }, { on := 6, ground := Ground.data }, { on := 8, ground := Ground.data }], guard := none }) rfl (fun K hK => ?_) (AllReadyH.nil)
            go_simp
            go_at_call 47
            (with_reducible refine Calls.mono (hE1 _ hF.be) ?_)
            rintro e wg ⟨rfl, hbb⟩
            replace hF := hF.below hbb
            replace hC := hC.below hbb
            clear hbb
            go_wp2_with fail
            refine hK.out _ _ ?_ (fun hHeld => ?_)
            · (try dsimp only)
              exact ⟨hC.reads rfl, hC.reads rfl, hC.reads rfl⟩
            clear hK K
            (try simp only [Act.put, List.setIfInBounds_toArray, List.set_cons_zero, List.set_cons_succ])
            refine wpAnyH_ready (rs := [10]) (by kernel_rfl) (by simp) ?_
            refine AllReadyH.cons (o := { dst := some 91, op := Op.call { callee := Callee.value (Operand.func 44), args := #[Operand.tmp 81, Operand.tmp 90], argTypes := #[43, 43] }, type := 43, pos := "ref.go:334", after := #[{ on := 0, ground := Ground.data }, { on := 9, ground := Ground.data }, { on := 9, ground := Ground.chain }], guard := none }) rfl (fun K hK => ?_) (AllReadyH.nil)
            go_simp
            go_at_call 44
            (with_reducible refine Calls.mono (h44Y2 _) ?_)
            rintro e wl ⟨rfl, hbb⟩
            replace hF := hF.below hbb
            replace hC := hC.below hbb
            clear hbb
            go_wp2_with fail
            refine hK.out _ _ ?_ (fun hHeld => ?_)
            · (try dsimp only)
              exact ⟨hC.reads rfl, hC.reads rfl, hC.reads rfl⟩
            clear hK K
            (try simp only [Act.put, List.setIfInBounds_toArray, List.set_cons_zero, List.set_cons_succ])
            obtain ⟨_, i6, f6⟩ := id hF.x
            refine wpAnyH_ready (rs := [11]) (by kernel_rfl) (by simp) ?_
            refine AllReadyH.cons (o := { dst := none, op := Op.store 43 (Operand.tmp 6) (Operand.tmp 91), type := 0, pos := "ref.go:334", after := #[{ on := 10, ground := Ground.data }, { on := 10, ground := Ground.chain }, { on := 0, ground := Ground.phase }, { on := 1, ground := Ground.phase }, { on := 2, ground := Ground.phase }, { on := 3, ground := Ground.phase }, { on := 4, ground := Ground.phase }, { on := 5, ground := Ground.phase }, { on := 6, ground := Ground.phase }, { on := 7, ground := Ground.phase }, { on := 8, ground := Ground.phase }, { on := 9, ground := Ground.phase }, { on := 10, ground := Ground.phase }], guard := none }) rfl (fun K hK => ?_) (AllReadyH.nil)
            go_simp
            have hF2 := hF.put Y2
            have hC2 := far4 hC (b := w.heap.size + 1) (x0 := .int .i64 Y2.k) (x1 := .int .i64 Y2.t) (x2 := .int .i64 Y2.a) (x3 := .int .i64 Y2.b) nC
            refine hK.out _ _ ?_ (fun hHeld => ?_)
            · (try dsimp only)
              exact ⟨hC2.reads rfl, hC2.reads rfl, hC2.reads rfl⟩
            clear hK K
            (try simp only [Act.put, List.setIfInBounds_toArray, List.set_cons_zero, List.set_cons_succ])
            refine wpAnyH_done (by kernel_rfl) ?_ _
            refine NoPanic.normal ?_
            go_wp2_with fail
            go_meet
            exact ⟨hF2, hC2⟩
          · skip
            go_simp
            go_at_call 47
            (with_reducible refine Calls.mono (hE1 _ hF.be) ?_)
            rintro e wg ⟨rfl, hbb⟩
            replace hF := hF.below hbb
            replace hC := hC.below hbb
            clear hbb
            go_wp2_with fail
            refine hK.out _ _ ?_ (fun hHeld => ?_)
            · (try dsimp only)
              exact ⟨hC.reads rfl, hC.reads rfl, hC.reads rfl⟩
            clear hK K
            (try simp only [Act.put, List.setIfInBounds_toArray, List.set_cons_zero, List.set_cons_succ])
            refine wpAnyH_ready (rs := [0]) (by kernel_rfl) (by simp) ?_
            refine AllReadyH.cons (o := { dst := some 81, op := Op.load 43 (Operand.tmp 6), type := 43, pos := "ref.go:334", after := #[], guard := none }) rfl (fun K hK => ?_) (AllReadyH.nil)
            obtain ⟨_, i6, _⟩ := id hF.x
            go_simp
            refine hK.out _ _ ?_ (fun hHeld => ?_)
            · (try dsimp only)
              exact ⟨hC.reads rfl, hC.reads rfl, hC.reads rfl⟩
            clear hK K
            (try simp only [Act.put, List.setIfInBounds_toArray, List.set_cons_zero, List.set_cons_succ])
            refine wpAnyH_ready (rs := [10]) (by kernel_rfl) (by simp) ?_
            refine AllReadyH.cons (o := { dst := some 91, op := Op.call { callee := Callee.value (Operand.func 44), args := #[Operand.tmp 81, Operand.tmp 90], argTypes := #[43, 43] }, type := 43, pos := "ref.go:334", after := #[{ on := 0, ground := Ground.data }, { on := 9, ground := Ground.data }, { on := 9, ground := Ground.chain }], guard := none }) rfl (fun K hK => ?_) (AllReadyH.nil)
            go_simp
            go_at_call 44
            (with_reducible refine Calls.mono (h44Y2 _) ?_)
            rintro e wl ⟨rfl, hbb⟩
            replace hF := hF.below hbb
            replace hC := hC.below hbb
            clear hbb
            go_wp2_with fail
            refine hK.out _ _ ?_ (fun hHeld => ?_)
            · (try dsimp only)
              exact ⟨hC.reads rfl, hC.reads rfl, hC.reads rfl⟩
            clear hK K
            (try simp only [Act.put, List.setIfInBounds_toArray, List.set_cons_zero, List.set_cons_succ])
            obtain ⟨_, i6, f6⟩ := id hF.x
            refine wpAnyH_ready (rs := [11]) (by kernel_rfl) (by simp) ?_
            refine AllReadyH.cons (o := { dst := none, op := Op.store 43 (Operand.tmp 6) (Operand.tmp 91), type := 0, pos := "ref.go:334", after := #[{ on := 10, ground := Ground.data }, { on := 10, ground := Ground.chain }, { on := 0, ground := Ground.phase }, { on := 1, ground := Ground.phase }, { on := 2, ground := Ground.phase }, { on := 3, ground := Ground.phase }, { on := 4, ground := Ground.phase }, { on := 5, ground := Ground.phase }, { on := 6, ground := Ground.phase }, { on := 7, ground := Ground.phase }, { on := 8, ground := Ground.phase }, { on := 9, ground := Ground.phase }, { on := 10, ground := Ground.phase }], guard := none }) rfl (fun K hK => ?_) (AllReadyH.nil)
            go_simp
            have hF2 := hF.put Y2
            have hC2 := far4 hC (b := w.heap.size + 1) (x0 := .int .i64 Y2.k) (x1 := .int .i64 Y2.t) (x2 := .int .i64 Y2.a) (x3 := .int .i64 Y2.b) nC
            refine hK.out _ _ ?_ (fun hHeld => ?_)
            · (try dsimp only)
              exact ⟨hC2.reads rfl, hC2.reads rfl, hC2.reads rfl⟩
            clear hK K
            (try simp only [Act.put, List.setIfInBounds_toArray, List.set_cons_zero, List.set_cons_succ])
            refine wpAnyH_done (by kernel_rfl) ?_ _
            refine NoPanic.normal ?_
            go_wp2_with fail
            go_meet
            exact ⟨hF2, hC2⟩

        case rest =>
        clear hF hC
        obtain ⟨hF, hC⟩ := hcut
        obtain ⟨Y3, hY3⟩ : ∃ Y, leF Y2 E2 = Y := ⟨_, rfl⟩
        have h44Y3 := h44 Y2 E2
        rw [hY3] at eN' h44Y3
        clear hY3
        go_upto_region 16 with fail
        refine wp_region_noPanic ?_
        refine wp_region_held_drew (S := fun w' => w'.cell? ⟨pc, 1, none⟩ = some (.int .i64 (kb : Nat)) ∧ w'.cell? ⟨pc, 0, none⟩ = some (.int .i64 (ka : Nat)) ∧ w'.cell? ⟨pc, 3, none⟩ = some (.int .i64 cba)) (by kernel_rfl) ?_ (fun hHeld => ?_)
        · (try dsimp only)
          exact ⟨hC.reads rfl, hC.reads rfl, hC.reads rfl⟩
        refine wpAnyH_take (i := 1) (oi := { dst := some 93, op := Op.move (Operand.tmp 0), type := 32, pos := "ref.go:335", after := #[], guard := none }) (v := ?_) rfl (by kernel_rfl) (by kernel_rfl) (by kernel_rfl) (fun _ _ _ h => h) (Or.inl ⟨by rfl, ?_⟩) (by assumption) ?_
        rotate_left
        · intro wz hSz; (try dsimp only at hSz); go_simp; all_goals (with_reducible rfl)
        (try simp only [Act.put, List.setIfInBounds_toArray, List.set_cons_zero, List.set_cons_succ])
        refine wpAnyH_take (i := 2) (oi := { dst := some 94, op := Op.move (Operand.tmp 1), type := 9, pos := "ref.go:335", after := #[], guard := none }) (v := ?_) rfl (by kernel_rfl) (by kernel_rfl) (by kernel_rfl) (fun _ _ _ h => h) (Or.inl ⟨by rfl, ?_⟩) (by assumption) ?_
        rotate_left
        · intro wz hSz; (try dsimp only at hSz); go_simp; all_goals (with_reducible rfl)
        (try simp only [Act.put, List.setIfInBounds_toArray, List.set_cons_zero, List.set_cons_succ])
        refine wpAnyH_take (i := 3) (oi := { dst := some 95, op := Op.fieldAddr 68 (Operand.tmp 9) 1, type := 0, pos := "ref.go:335", after := #[], guard := none }) (v := ?_) rfl (by kernel_rfl) (by kernel_rfl) (by kernel_rfl) (fun _ _ _ h => h) (Or.inl ⟨by rfl, ?_⟩) (by assumption) ?_
        rotate_left
        · intro wz hSz; (try dsimp only at hSz); go_simp; all_goals (with_reducible rfl)
        (try simp only [Act.put, List.setIfInBounds_toArray, List.set_cons_zero, List.set_cons_succ])
        refine wpAnyH_take (i := 4) (oi := { dst := some 96, op := Op.load 3 (Operand.tmp 95), type := 3, pos := "ref.go:335", after := #[{ on := 3, ground := Ground.data }], guard := none }) (v := ?_) rfl (by kernel_rfl) (by kernel_rfl) (by kernel_rfl) (fun _ _ _ h => h) (Or.inl ⟨by rfl, ?_⟩) (by assumption) ?_
        rotate_left
        · intro wz hSz; (try dsimp only at hSz); go_simp; all_goals (with_reducible rfl)
        (try simp only [Act.put, List.setIfInBounds_toArray, List.set_cons_zero, List.set_cons_succ])
        refine wpAnyH_take (i := 5) (oi := { dst := some 97, op := Op.fieldAddr 68 (Operand.tmp 9) 0, type := 0, pos := "ref.go:335", after := #[], guard := none }) (v := ?_) rfl (by kernel_rfl) (by kernel_rfl) (by kernel_rfl) (fun _ _ _ h => h) (Or.inl ⟨by rfl, ?_⟩) (by assumption) ?_
        rotate_left
        · intro wz hSz; (try dsimp only at hSz); go_simp; all_goals (with_reducible rfl)
        (try simp only [Act.put, List.setIfInBounds_toArray, List.set_cons_zero, List.set_cons_succ])
        refine wpAnyH_take (i := 6) (oi := { dst := some 98, op := Op.load 3 (Operand.tmp 97), type := 3, pos := "ref.go:335", after := #[{ on := 5, ground := Ground.data }], guard := none }) (v := ?_) rfl (by kernel_rfl) (by kernel_rfl) (by kernel_rfl) (fun _ _ _ h => h) (Or.inl ⟨by rfl, ?_⟩) (by assumption) ?_
        rotate_left
        · intro wz hSz; (try dsimp only at hSz); go_simp; all_goals (with_reducible rfl)
        (try simp only [Act.put, List.setIfInBounds_toArray, List.set_cons_zero, List.set_cons_succ])
        refine wpAnyH_take (i := 7) (oi := { dst := some 99, op := Op.fieldAddr 68 (Operand.tmp 9) 3, type := 0, pos := "ref.go:335", after := #[], guard := none }) (v := ?_) rfl (by kernel_rfl) (by kernel_rfl) (by kernel_rfl) (fun _ _ _ h => h) (Or.inl ⟨by rfl, ?_⟩) (by assumption) ?_
        rotate_left
        · intro wz hSz; (try dsimp only at hSz); go_simp; all_goals (with_reducible rfl)
        (try simp only [Act.put, List.setIfInBounds_toArray, List.set_cons_zero, List.set_cons_succ])
        refine wpAnyH_take (i := 8) (oi := { dst := some 100, op := Op.load 3 (Operand.tmp 99), type := 3, pos := "ref.go:335", after := #[{ on := 7, ground := Ground.data }], guard := none }) (v := ?_) rfl (by kernel_rfl) (by kernel_rfl) (by kernel_rfl) (fun _ _ _ h => h) (Or.inl ⟨by rfl, ?_⟩) (by assumption) ?_
        rotate_left
        · intro wz hSz; (try dsimp only at hSz); go_simp; all_goals (with_reducible rfl)
        (try simp only [Act.put, List.setIfInBounds_toArray, List.set_cons_zero, List.set_cons_succ])
        replace hF := hF.drew
        replace hC := hC.drew
        generalize wc.drew = V1 at *
        refine wpAnyH_ready (rs := [0, 9]) (by kernel_rfl) (by simp) ?_
        refine AllReadyH.cons (o := { dst := some 92, op := Op.load 43 (Operand.tmp 6), type := 43, pos := "ref.go:335", after := #[], guard := none }) rfl (fun K hK => ?_) (AllReadyH.cons (o := { dst := some 101, op := Op.call { callee := Callee.value (Operand.func 47), args := #[Operand.tmp 93, Operand.tmp 94, Operand.tmp 96, Operand.tmp 98, Operand.tmp 100], argTypes := #[32, 9, 3, 3, 3] }, type := 43, pos := "ref.go:335", after := #[{ on := 1, ground := Ground.data }, { on := 2, ground := Ground.data }, { on := 4, ground := Ground.data }, { on := 6, ground := Ground.data }, { on := 8, ground := Ground.data }], guard := none }) rfl (fun K hK => ?_) (AllReadyH.nil))
        · skip
          obtain ⟨_, i6, _⟩ := id hF.x
          go_simp
          refine hK.out _ _ ?_ (fun hHeld => ?_)
          · (try dsimp only)
            exact ⟨hC.reads rfl, hC.reads rfl, hC.reads rfl⟩
          clear hK K
          (try simp only [Act.put, List.setIfInBounds_toArray, List.set_cons_zero, List.set_cons_succ])
          refine wpAnyH_ready (rs := [9]) (by kernel_rfl) (by simp) ?_
          refine AllReadyH.cons (o := { dst := some 101, op := Op.call { callee := Callee.value (Operand.func 47), args := #[Operand.tmp 93, Operand.tmp 94, Operand.tmp 96, Operand.tmp 98, Operand.tmp 100], argTypes := #[32, 9, 3, 3, 3] }, type := 43, pos := "ref.go:335", after := #[{ on := 1, ground := Ground.data }, { on := 2, ground := Ground.data }, { on := 4, ground := Ground.data }, { on := 6, ground := Ground.data }, { on := 8, ground := Ground.data }], guard := none }) rfl (fun K hK => ?_) (AllReadyH.nil)
          go_simp
          go_at_call 47
          (with_reducible refine Calls.mono (hE2 _ hF.be) ?_)
          rintro e wg ⟨rfl, hbb⟩
          replace hF := hF.below hbb
          replace hC := hC.below hbb
          clear hbb
          go_wp2_with fail
          refine hK.out _ _ ?_ (fun hHeld => ?_)
          · (try dsimp only)
            exact ⟨hC.reads rfl, hC.reads rfl, hC.reads rfl⟩
          clear hK K
          (try simp only [Act.put, List.setIfInBounds_toArray, List.set_cons_zero, List.set_cons_succ])
          refine wpAnyH_ready (rs := [10]) (by kernel_rfl) (by simp) ?_
          refine AllReadyH.cons (o := { dst := some 102, op := Op.call { callee := Callee.value (Operand.func 44), args := #[Operand.tmp 92, Operand.tmp 101], argTypes := #[43, 43] }, type := 43, pos := "ref.go:335", after := #[{ on := 0, ground := Ground.data }, { on := 9, ground := Ground.data }, { on := 9, ground := Ground.chain }], guard := none }) rfl (fun K hK => ?_) (AllReadyH.nil)
          go_simp
          go_at_call 44
          (with_reducible refine Calls.mono (h44Y3 _) ?_)
          rintro e wl ⟨rfl, hbb⟩
          replace hF := hF.below hbb
          replace hC := hC.below hbb
          clear hbb
          go_wp2_with fail
          refine hK.out _ _ ?_ (fun hHeld => ?_)
          · (try dsimp only)
            exact ⟨hC.reads rfl, hC.reads rfl, hC.reads rfl⟩
          clear hK K
          (try simp only [Act.put, List.setIfInBounds_toArray, List.set_cons_zero, List.set_cons_succ])
          obtain ⟨_, i6, f6⟩ := id hF.x
          refine wpAnyH_ready (rs := [11]) (by kernel_rfl) (by simp) ?_
          refine AllReadyH.cons (o := { dst := none, op := Op.store 43 (Operand.tmp 6) (Operand.tmp 102), type := 0, pos := "ref.go:335", after := #[{ on := 10, ground := Ground.data }, { on := 10, ground := Ground.chain }, { on := 0, ground := Ground.phase }, { on := 1, ground := Ground.phase }, { on := 2, ground := Ground.phase }, { on := 3, ground := Ground.phase }, { on := 4, ground := Ground.phase }, { on := 5, ground := Ground.phase }, { on := 6, ground := Ground.phase }, { on := 7, ground := Ground.phase }, { on := 8, ground := Ground.phase }, { on := 9, ground := Ground.phase }, { on := 10, ground := Ground.phase }], guard := none }) rfl (fun K hK => ?_) (AllReadyH.nil)
          go_simp
          have hF2 := hF.put Y3
          have hC2 := far4 hC (b := w.heap.size + 1) (x0 := .int .i64 Y3.k) (x1 := .int .i64 Y3.t) (x2 := .int .i64 Y3.a) (x3 := .int .i64 Y3.b) nC
          refine hK.out _ _ ?_ (fun hHeld => ?_)
          · (try dsimp only)
            exact ⟨hC2.reads rfl, hC2.reads rfl, hC2.reads rfl⟩
          clear hK K
          (try simp only [Act.put, List.setIfInBounds_toArray, List.set_cons_zero, List.set_cons_succ])
          refine wpAnyH_done (by kernel_rfl) ?_ _
          refine NoPanic.normal ?_
          go_wp2_with fail
          go_roundg g
          case measure => omega
          case rel => exact ⟨q + 1, by omega, by push_cast; rfl, by rw [eN'.out]; exact hF2⟩
        · skip
          go_simp
          go_at_call 47
          (with_reducible refine Calls.mono (hE2 _ hF.be) ?_)
          rintro e wg ⟨rfl, hbb⟩
          replace hF := hF.below hbb
          replace hC := hC.below hbb
          clear hbb
          go_wp2_with fail
          refine hK.out _ _ ?_ (fun hHeld => ?_)
          · (try dsimp only)
            exact ⟨hC.reads rfl, hC.reads rfl, hC.reads rfl⟩
          clear hK K
          (try simp only [Act.put, List.setIfInBounds_toArray, List.set_cons_zero, List.set_cons_succ])
          refine wpAnyH_ready (rs := [0]) (by kernel_rfl) (by simp) ?_
          refine AllReadyH.cons (o := { dst := some 92, op := Op.load 43 (Operand.tmp 6), type := 43, pos := "ref.go:335", after := #[], guard := none }) rfl (fun K hK => ?_) (AllReadyH.nil)
          obtain ⟨_, i6, _⟩ := id hF.x
          go_simp
          refine hK.out _ _ ?_ (fun hHeld => ?_)
          · (try dsimp only)
            exact ⟨hC.reads rfl, hC.reads rfl, hC.reads rfl⟩
          clear hK K
          (try simp only [Act.put, List.setIfInBounds_toArray, List.set_cons_zero, List.set_cons_succ])
          refine wpAnyH_ready (rs := [10]) (by kernel_rfl) (by simp) ?_
          refine AllReadyH.cons (o := { dst := some 102, op := Op.call { callee := Callee.value (Operand.func 44), args := #[Operand.tmp 92, Operand.tmp 101], argTypes := #[43, 43] }, type := 43, pos := "ref.go:335", after := #[{ on := 0, ground := Ground.data }, { on := 9, ground := Ground.data }, { on := 9, ground := Ground.chain }], guard := none }) rfl (fun K hK => ?_) (AllReadyH.nil)
          go_simp
          go_at_call 44
          (with_reducible refine Calls.mono (h44Y3 _) ?_)
          rintro e wl ⟨rfl, hbb⟩
          replace hF := hF.below hbb
          replace hC := hC.below hbb
          clear hbb
          go_wp2_with fail
          refine hK.out _ _ ?_ (fun hHeld => ?_)
          · (try dsimp only)
            exact ⟨hC.reads rfl, hC.reads rfl, hC.reads rfl⟩
          clear hK K
          (try simp only [Act.put, List.setIfInBounds_toArray, List.set_cons_zero, List.set_cons_succ])
          obtain ⟨_, i6, f6⟩ := id hF.x
          refine wpAnyH_ready (rs := [11]) (by kernel_rfl) (by simp) ?_
          refine AllReadyH.cons (o := { dst := none, op := Op.store 43 (Operand.tmp 6) (Operand.tmp 102), type := 0, pos := "ref.go:335", after := #[{ on := 10, ground := Ground.data }, { on := 10, ground := Ground.chain }, { on := 0, ground := Ground.phase }, { on := 1, ground := Ground.phase }, { on := 2, ground := Ground.phase }, { on := 3, ground := Ground.phase }, { on := 4, ground := Ground.phase }, { on := 5, ground := Ground.phase }, { on := 6, ground := Ground.phase }, { on := 7, ground := Ground.phase }, { on := 8, ground := Ground.phase }, { on := 9, ground := Ground.phase }, { on := 10, ground := Ground.phase }], guard := none }) rfl (fun K hK => ?_) (AllReadyH.nil)
          go_simp
          have hF2 := hF.put Y3
          have hC2 := far4 hC (b := w.heap.size + 1) (x0 := .int .i64 Y3.k) (x1 := .int .i64 Y3.t) (x2 := .int .i64 Y3.a) (x3 := .int .i64 Y3.b) nC
          refine hK.out _ _ ?_ (fun hHeld => ?_)
          · (try dsimp only)
            exact ⟨hC2.reads rfl, hC2.reads rfl, hC2.reads rfl⟩
          clear hK K
          (try simp only [Act.put, List.setIfInBounds_toArray, List.set_cons_zero, List.set_cons_succ])
          refine wpAnyH_done (by kernel_rfl) ?_ _
          refine NoPanic.normal ?_
          go_wp2_with fail
          go_roundg g
          case measure => omega
          case rel => exact ⟨q + 1, by omega, by push_cast; rfl, by rw [eN'.out]; exact hF2⟩

      | succ g =>
        have hkn : k < n := by omega
        have hkG : k < G.length := by have := hn'.out; omega
        have hks : k < s.size := by omega
        have hksi : (k : Int) < s.size := by omega
        have h45' := h45 k hkG
        have eN : rgN G f tk s (k + 1) = leF (rgN G f tk s k) (gaF (G.getD k gp0) k tk (f k) (ltr s k)) := rfl
        have hlt := ltr_get s k hks
        generalize gaF (G.getD k gp0) k tk (f k) (ltr s k) = ga0 at *
        rw [← hlt] at h45'
        obtain ⟨X, hX⟩ : ∃ X, rgN G f tk s k = X := ⟨_, rfl⟩
        rw [hX] at hS eN
        obtain ⟨Y0, hY0⟩ : ∃ Y, leF X ga0 = Y := ⟨_, rfl⟩
        have h44' := h44 X ga0
        rw [hY0] at eN h44'
        have eN' : Hid (rgN G f tk s (k + 1) = Y0) := eN
        have hF := hS.out
        clear hX hY0 eN hS hlt h45 h46 h47
        go_upto_region 8 with fail
        refine wp_region_noPanic ?_
        refine wp_region_held_drew (S := fun w' => True) (by kernel_rfl) ?_ (fun hHeld => ?_)
        · (try dsimp only)
          (try trivial)
        refine wpAnyH_take (i := 1) (oi := { dst := some 38, op := Op.move (Operand.tmp 0), type := 32, pos := "ref.go:327", after := #[], guard := none }) (v := ?_) rfl (by kernel_rfl) (by kernel_rfl) (by kernel_rfl) (fun _ _ _ h => h) (Or.inl ⟨by rfl, ?_⟩) (by assumption) ?_
        rotate_left
        · intro wz hSz; (try dsimp only at hSz); go_simp; all_goals (with_reducible rfl)
        (try simp only [Act.put, List.setIfInBounds_toArray, List.set_cons_zero, List.set_cons_succ])
        refine wpAnyH_take (i := 2) (oi := { dst := some 39, op := Op.move (Operand.tmp 7), type := 3, pos := "ref.go:327", after := #[], guard := none }) (v := ?_) rfl (by kernel_rfl) (by kernel_rfl) (by kernel_rfl) (fun _ _ _ h => h) (Or.inl ⟨by rfl, ?_⟩) (by assumption) ?_
        rotate_left
        · intro wz hSz; (try dsimp only at hSz); go_simp; all_goals (with_reducible rfl)
        (try simp only [Act.put, List.setIfInBounds_toArray, List.set_cons_zero, List.set_cons_succ])
        refine wpAnyH_take (i := 3) (oi := { dst := some 40, op := Op.move (Operand.tmp 1), type := 9, pos := "ref.go:327", after := #[], guard := none }) (v := ?_) rfl (by kernel_rfl) (by kernel_rfl) (by kernel_rfl) (fun _ _ _ h => h) (Or.inl ⟨by rfl, ?_⟩) (by assumption) ?_
        rotate_left
        · intro wz hSz; (try dsimp only at hSz); go_simp; all_goals (with_reducible rfl)
        (try simp only [Act.put, List.setIfInBounds_toArray, List.set_cons_zero, List.set_cons_succ])
        refine wpAnyH_take (i := 4) (oi := { dst := some 41, op := Op.move (Operand.tmp 7), type := 3, pos := "ref.go:327", after := #[], guard := none }) (v := ?_) rfl (by kernel_rfl) (by kernel_rfl) (by kernel_rfl) (fun _ _ _ h => h) (Or.inl ⟨by rfl, ?_⟩) (by assumption) ?_
        rotate_left
        · intro wz hSz; (try dsimp only at hSz); go_simp; all_goals (with_reducible rfl)
        (try simp only [Act.put, List.setIfInBounds_toArray, List.set_cons_zero, List.set_cons_succ])
        refine wpAnyH_take (i := 5) (oi := { dst := some 42, op := Op.index 9 (Operand.tmp 40) (Operand.tmp 41), type := 5, pos := "ref.go:327", after := #[{ on := 3, ground := Ground.data }, { on := 4, ground := Ground.data }], guard := none }) (v := ?_) rfl (by kernel_rfl) (by kernel_rfl) (by kernel_rfl) (fun _ _ _ h => h) (Or.inl ⟨by rfl, ?_⟩) (by assumption) ?_
        rotate_left
        · intro wz hSz; (try dsimp only at hSz); go_simp; all_goals (with_reducible rfl)
        (try simp only [Act.put, List.setIfInBounds_toArray, List.set_cons_zero, List.set_cons_succ])
        replace hF := hF.drew
        generalize wr.drew = V1 at *
        refine wpAnyH_ready (rs := [0, 6]) (by kernel_rfl) (by simp) ?_
        refine AllReadyH.cons (o := { dst := some 37, op := Op.load 43 (Operand.tmp 6), type := 43, pos := "ref.go:327", after := #[], guard := none }) rfl (fun K hK => ?_) (AllReadyH.cons (o := { dst := some 43, op := Op.call { callee := Callee.value (Operand.func 45), args := #[Operand.tmp 38, Operand.tmp 39, Operand.tmp 42], argTypes := #[32, 3, 5] }, type := 43, pos := "ref.go:327", after := #[{ on := 1, ground := Ground.data }, { on := 2, ground := Ground.data }, { on := 5, ground := Ground.data }], guard := none }) rfl (fun K hK => ?_) (AllReadyH.nil))
        · skip
          obtain ⟨_, i6, _⟩ := id hF.x
          go_simp
          refine hK.out _ _ ?_ (fun hHeld => ?_)
          · (try dsimp only)
            (try trivial)
          clear hK K
          (try simp only [Act.put, List.setIfInBounds_toArray, List.set_cons_zero, List.set_cons_succ])
          refine wpAnyH_ready (rs := [6]) (by kernel_rfl) (by simp) ?_
          refine AllReadyH.cons (o := { dst := some 43, op := Op.call { callee := Callee.value (Operand.func 45), args := #[Operand.tmp 38, Operand.tmp 39, Operand.tmp 42], argTypes := #[32, 3, 5] }, type := 43, pos := "ref.go:327", after := #[{ on := 1, ground := Ground.data }, { on := 2, ground := Ground.data }, { on := 5, ground := Ground.data }], guard := none }) rfl (fun K hK => ?_) (AllReadyH.nil)
          go_simp
          go_at_call 45
          (with_reducible refine Calls.mono (h45' _ hF.be) ?_)
          rintro e wg ⟨rfl, hbb⟩
          replace hF := hF.below hbb
          clear hbb
          go_wp2_with fail
          refine hK.out _ _ ?_ (fun hHeld => ?_)
          · (try dsimp only)
            (try trivial)
          clear hK K
          (try simp only [Act.put, List.setIfInBounds_toArray, List.set_cons_zero, List.set_cons_succ])
          refine wpAnyH_ready (rs := [7]) (by kernel_rfl) (by simp) ?_
          refine AllReadyH.cons (o := { dst := some 44, op := Op.call { callee := Callee.value (Operand.func 44), args := #[Operand.tmp 37, Operand.tmp 43], argTypes := #[43, 43] }, type := 43, pos := "ref.go:327", after := #[{ on := 0, ground := Ground.data }, { on := 6, ground := Ground.data }, { on := 6, ground := Ground.chain }], guard := none }) rfl (fun K hK => ?_) (AllReadyH.nil)
          go_simp
          go_at_call 44
          (with_reducible refine Calls.mono (h44' _) ?_)
          rintro e wl ⟨rfl, hbb⟩
          replace hF := hF.below hbb
          clear hbb
          go_wp2_with fail
          refine hK.out _ _ ?_ (fun hHeld => ?_)
          · (try dsimp only)
            (try trivial)
          clear hK K
          (try simp only [Act.put, List.setIfInBounds_toArray, List.set_cons_zero, List.set_cons_succ])
          obtain ⟨_, i6, f6⟩ := id hF.x
          refine wpAnyH_ready (rs := [8]) (by kernel_rfl) (by simp) ?_
          refine AllReadyH.cons (o := { dst := none, op := Op.store 43 (Operand.tmp 6) (Operand.tmp 44), type := 0, pos := "ref.go:327", after := #[{ on := 7, ground := Ground.data }, { on := 7, ground := Ground.chain }, { on := 0, ground := Ground.phase }, { on := 1, ground := Ground.phase }, { on := 2, ground := Ground.phase }, { on := 3, ground := Ground.phase }, { on := 4, ground := Ground.phase }, { on := 5, ground := Ground.phase }, { on := 6, ground := Ground.phase }, { on := 7, ground := Ground.phase }], guard := none }) rfl (fun K hK => ?_) (AllReadyH.nil)
          go_simp
          have hF2 := hF.put Y0
          refine hK.out _ _ ?_ (fun hHeld => ?_)
          · (try dsimp only)
            (try trivial)
          clear hK K
          (try simp only [Act.put, List.setIfInBounds_toArray, List.set_cons_zero, List.set_cons_succ])
          refine wpAnyH_done (by kernel_rfl) ?_ _
          refine NoPanic.normal ?_
          go_wp2_with fail
          go_roundg g
          case measure => omega
          case rel => exact ⟨k + 1, by omega, by push_cast; rfl, by rw [eN'.out]; exact hF2⟩
        · skip
          go_simp
          go_at_call 45
          (with_reducible refine Calls.mono (h45' _ hF.be) ?_)
          rintro e wg ⟨rfl, hbb⟩
          replace hF := hF.below hbb
          clear hbb
          go_wp2_with fail
          refine hK.out _ _ ?_ (fun hHeld => ?_)
          · (try dsimp only)
            (try trivial)
          clear hK K
          (try simp only [Act.put, List.setIfInBounds_toArray, List.set_cons_zero, List.set_cons_succ])
          refine wpAnyH_ready (rs := [0]) (by kernel_rfl) (by simp) ?_
          refine AllReadyH.cons (o := { dst := some 37, op := Op.load 43 (Operand.tmp 6), type := 43, pos := "ref.go:327", after := #[], guard := none }) rfl (fun K hK => ?_) (AllReadyH.nil)
          obtain ⟨_, i6, _⟩ := id hF.x
          go_simp
          refine hK.out _ _ ?_ (fun hHeld => ?_)
          · (try dsimp only)
            (try trivial)
          clear hK K
          (try simp only [Act.put, List.setIfInBounds_toArray, List.set_cons_zero, List.set_cons_succ])
          refine wpAnyH_ready (rs := [7]) (by kernel_rfl) (by simp) ?_
          refine AllReadyH.cons (o := { dst := some 44, op := Op.call { callee := Callee.value (Operand.func 44), args := #[Operand.tmp 37, Operand.tmp 43], argTypes := #[43, 43] }, type := 43, pos := "ref.go:327", after := #[{ on := 0, ground := Ground.data }, { on := 6, ground := Ground.data }, { on := 6, ground := Ground.chain }], guard := none }) rfl (fun K hK => ?_) (AllReadyH.nil)
          go_simp
          go_at_call 44
          (with_reducible refine Calls.mono (h44' _) ?_)
          rintro e wl ⟨rfl, hbb⟩
          replace hF := hF.below hbb
          clear hbb
          go_wp2_with fail
          refine hK.out _ _ ?_ (fun hHeld => ?_)
          · (try dsimp only)
            (try trivial)
          clear hK K
          (try simp only [Act.put, List.setIfInBounds_toArray, List.set_cons_zero, List.set_cons_succ])
          obtain ⟨_, i6, f6⟩ := id hF.x
          refine wpAnyH_ready (rs := [8]) (by kernel_rfl) (by simp) ?_
          refine AllReadyH.cons (o := { dst := none, op := Op.store 43 (Operand.tmp 6) (Operand.tmp 44), type := 0, pos := "ref.go:327", after := #[{ on := 7, ground := Ground.data }, { on := 7, ground := Ground.chain }, { on := 0, ground := Ground.phase }, { on := 1, ground := Ground.phase }, { on := 2, ground := Ground.phase }, { on := 3, ground := Ground.phase }, { on := 4, ground := Ground.phase }, { on := 5, ground := Ground.phase }, { on := 6, ground := Ground.phase }, { on := 7, ground := Ground.phase }], guard := none }) rfl (fun K hK => ?_) (AllReadyH.nil)
          go_simp
          have hF2 := hF.put Y0
          refine hK.out _ _ ?_ (fun hHeld => ?_)
          · (try dsimp only)
            (try trivial)
          clear hK K
          (try simp only [Act.put, List.setIfInBounds_toArray, List.set_cons_zero, List.set_cons_succ])
          refine wpAnyH_done (by kernel_rfl) ?_ _
          refine NoPanic.normal ?_
          go_wp2_with fail
          go_roundg g
          case measure => omega
          case rel => exact ⟨k + 1, by omega, by push_cast; rfl, by rw [eN'.out]; exact hF2⟩

  · rw [show ffF G C f tk s = ⟨1, tk, wrF G.length s, -1⟩ by unfold ffF; rw [if_neg hw]]
    dsimp only
    have g1 : (wrF G.length s != -2) = true := by simpa using hw
    generalize wrF G.length s = wv at *
    clear hn hmm hw hn' hm' kC
    generalize G.length = gl0 at *
    go_enter Try.func32, Try.ntmps32
    go_wp2_with (go_at_call 43; (with_reducible refine Calls.mono (h43 _) ?_); rintro e w2 ⟨rfl, rfl⟩)
    exact bodyPost_ret (v := .agg #[.int .i64 1, .int .i64 tk, .int .i64 wv, .int .i64 (-1)]) (by simp [results, Try.results32, go_sem]) rfl ⟨rfl, belN1⟩
end Go.Proofs.Ytoaokpmnjppfcaa
