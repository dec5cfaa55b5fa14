import Derived.Test.YtcajejfddfiidaaDoorInL
namespace Go.Proofs.YtcajejfddfiidaaDoor
open Go.RowKit Go.Shelf
set_option linter.unusedVariables false
set_option linter.unusedSimpArgs false


attribute [local go_sem] Oper.semAt_some

theorem inF_app (ok : Nat → List UInt8 → Option (Nat × Nat)) : ∀ (xs ys : List (List UInt8)) (L : List Int), inF ok (xs ++ ys) L = (inF ok xs L).bind (inF ok ys)
  | [], ys, L => rfl
  | x :: xs, ys, L => by
    show inF ok (x :: (xs ++ ys)) L = _
    unfold inF
    cases ok L.length x with
    | none => rfl
    | some p => exact inF_app ok xs ys _
theorem inF_snoc (ok : Nat → List UInt8 → Option (Nat × Nat)) {pre : List (List UInt8)} {x : List UInt8} {L : List Int} (h : inF ok pre [] = some L) : inF ok (pre ++ [x]) [] = match ok L.length x with | none => none | some p => some (L ++ List.replicate p.1 (p.2 : Int)) := by
  rw [inF_app, h]
  show inF ok [x] L = _
  unfold inF
  cases ok L.length x <;> rfl
theorem inF_stop (ok : Nat → List UInt8 → Option (Nat × Nat)) {Y pre : List (List UInt8)} {x : List UInt8} {L : List Int} (hp : pre ++ [x] <+: Y) (h : inF ok pre [] = some L) (hn : ok L.length x = none) : inF ok Y [] = none := by
  obtain ⟨r, rfl⟩ := hp
  rw [inF_app, inF_snoc ok h, hn]; rfl
theorem ws_len : ∀ (l cur x : List UInt8), x ∈ wsA cur l → x.length ≤ cur.length + l.length
  | [], cur, x, h => by
    unfold wsA at h
    split at h
    · cases h
    · rw [List.mem_singleton.1 h]; omega
  | c :: l, cur, x, h => by
    unfold wsA at h
    split at h
    · split at h
      · have := ws_len l [] x h
        simp at this ⊢
        omega
      · rcases List.mem_cons.1 h with rfl | h
        · omega
        · have := ws_len l [] x h
          simp at this ⊢
          omega
    · have := ws_len l (cur ++ [c]) x h
      simp at this ⊢
      omega
theorem rwF_pos {x : List UInt8} {p : Nat × Nat} (h : rwF x = some p) : 1 ≤ p.1 ∧ p.1 ≤ 2147483647 := by
  unfold rwF at h
  split at h
  · cases h
  · rename_i n hn
    split at h
    · cases h
    · rename_i hc
      obtain ⟨y, hy, rfl⟩ := Option.map_eq_some_iff.1 h
      refine ⟨by show 1 ≤ n; omega, ?_⟩
      unfold p10 at hn
      split at hn
      · cases hn
      · exact p10F_lt _ 0 n (by decide) hn
theorem inF_same : ∀ (xs : List (List UInt8)) (L : List Int), L.length ≤ 65536 → inF okR xs L = inF okW xs L
  | [], L, h => rfl
  | x :: xs, L, h => by
    unfold inF
    rw [ok_same L.length x h]
    cases hk : okW L.length x with
    | none => rfl
    | some p =>
      have := okW_spec hk
      exact inF_same xs _ (by rw [List.length_append, List.length_replicate]; omega)
def ItI (w0 : World) (B : Nat) (pre : List (List UInt8)) (W : World) : Prop := ∃ L v, inF okR pre [] = some L ∧ L.length ≤ 65536 ∧ ItV w0 B L v W
def ItX (w0 : World) (X : List UInt8) (c : Code) (pre : List (List UInt8)) (W : World) : Prop :=
  c = .ret ∧ inF okR (wsA [] X) [] = none ∧ Has W w0.heap.size #[.slice none 0 0] ∧ Has W (w0.heap.size + 1) #[.int .i64 141] ∧ Below w0.heap.size w0 W
theorem tabs_below {w w' : World} (h : Lib.Utf8Tabs 0 1 w) (hb : Below w.heap.size w w') : Lib.Utf8Tabs 0 1 w' :=
  ⟨fun c hc => (hb.cell (p := ⟨0, c, none⟩) (Lib.lt_of_cell (h.1 c hc))).trans (h.1 c hc), fun i hi => ⟨(hb.cell (p := ⟨1, 2 * i, none⟩) (Lib.lt_of_cell (h.2 i hi).1)).trans (h.2 i hi).1, (hb.cell (p := ⟨1, 2 * i + 1, none⟩) (Lib.lt_of_cell (h.2 i hi).2)).trans (h.2 i hi).2⟩⟩
set_option maxRecDepth 100000 in
set_option maxHeartbeats 2000000 in
theorem fieldsSeq_any (d : ByteArray) (w : World) : Calls Tryd.prog 14 #[.string d, .func (.func 15) #[] #[]] w fun e w' => e = .returned (.func (.func 31) #[] #[.pointer (some ⟨w.heap.size, 0, none⟩), .pointer (some ⟨w.heap.size + 1, 0, none⟩)]) ∧ w' = (w.alloc (.cells #[.string d] 9)).alloc (.cells #[.func (.func 15) #[] #[]] 41) := by
  go_enter Tryd.func14, Tryd.ntmps14
  go_wp2
  go_ret
  exact ⟨rfl, rfl⟩
set_option maxRecDepth 100000 in
set_option maxHeartbeats 2000000 in
theorem inputs_in (X : List UInt8) (w0 : World) (hG : Sg w0) (hT : Lib.Utf8Tabs 0 1 w0) (hX : X.length ≤ 140737488355328) :
    CallsIn Fence.wide 3 Tryd.prog 7 #[.string (bs X)] w0 fun e w' => InP (inF okR (wsA [] X) []) w0 e w' := by
  have hLi := fun w => fieldsSeq_any (bs X) w
  have hG' : Hid (Sg w0) := hG
  have hT' : Hid (Lib.Utf8Tabs 0 1 w0) := hT
  clear hG hT
  refine callsIn_of_wp_marks Tryd.func7 rfl trivial ?_ rfl
  simp only [Tryd.ntmps7, List.size_toArray, List.length_cons, List.length_nil, Nat.reduceAdd, Nat.reduceSub, Array.replicate_succ, Array.replicate_zero, List.push_toArray, List.append_toArray, List.nil_append, List.cons_append]
  gi_wp2_with (refine ⟨trivial, ?_⟩; gi_at_call 14; refine (callsIn_wide.2 (hLi _)).mono ?_; rintro e w1 ⟨rfl, rfl⟩)
  have hR1 : Has (((((w0.alloc (.cells #[.slice none 0 0] 22)).alloc (.cells #[.int .i64 0] 23)).alloc (.cells #[.slice none 0 0] 22)).alloc (.cells #[.string (bs X)] 9)).alloc (.cells #[.func (.func 15) #[] #[]] 41)) (w0.heap.size) #[.slice none 0 0] := ((((Has.new _ _ _ rfl).alloc _).alloc _).alloc _).alloc _
  have hR2 : Has (((((w0.alloc (.cells #[.slice none 0 0] 22)).alloc (.cells #[.int .i64 0] 23)).alloc (.cells #[.slice none 0 0] 22)).alloc (.cells #[.string (bs X)] 9)).alloc (.cells #[.func (.func 15) #[] #[]] 41)) (w0.heap.size + 1) #[.int .i64 0] := (((Has.new _ _ _ (by simp)).alloc _).alloc _).alloc _
  have hR3 : Has (((((w0.alloc (.cells #[.slice none 0 0] 22)).alloc (.cells #[.int .i64 0] 23)).alloc (.cells #[.slice none 0 0] 22)).alloc (.cells #[.string (bs X)] 9)).alloc (.cells #[.func (.func 15) #[] #[]] 41)) (w0.heap.size + 1 + 1) #[.slice none 0 0] := ((Has.new _ _ _ (by simp)).alloc _).alloc _
  have hR4 : (((((w0.alloc (.cells #[.slice none 0 0] 22)).alloc (.cells #[.int .i64 0] 23)).alloc (.cells #[.slice none 0 0] 22)).alloc (.cells #[.string (bs X)] 9)).alloc (.cells #[.func (.func 15) #[] #[]] 41)).heap[w0.heap.size + 1 + 1 + 1]? = some (.cells #[.string (bs X)] 9 (0, 0)) := by
    have h1 := World.alloc_heap_new (((w0.alloc (.cells #[.slice none 0 0] 22)).alloc (.cells #[.int .i64 0] 23)).alloc (.cells #[.slice none 0 0] 22)) (.cells #[.string (bs X)] 9)
    have h2 := Below.heap_alloc ((((w0.alloc (.cells #[.slice none 0 0] 22)).alloc (.cells #[.int .i64 0] 23)).alloc (.cells #[.slice none 0 0] 22)).alloc (.cells #[.string (bs X)] 9)) (.cells #[.func (.func 15) #[] #[]] 41) (w0.heap.size + 1 + 1 + 1) (by simp)
    rw [h2]
    simpa using h1
  have hR5 : (((((w0.alloc (.cells #[.slice none 0 0] 22)).alloc (.cells #[.int .i64 0] 23)).alloc (.cells #[.slice none 0 0] 22)).alloc (.cells #[.string (bs X)] 9)).alloc (.cells #[.func (.func 15) #[] #[]] 41)).heap[w0.heap.size + 1 + 1 + 1 + 1]? = some (.cells #[.func (.func 15) #[] #[]] 41 (0, 0)) := by
    have h1 := World.alloc_heap_new ((((w0.alloc (.cells #[.slice none 0 0] 22)).alloc (.cells #[.int .i64 0] 23)).alloc (.cells #[.slice none 0 0] 22)).alloc (.cells #[.string (bs X)] 9)) (.cells #[.func (.func 15) #[] #[]] 41)
    simpa using h1
  have hbl : Below w0.heap.size w0 (((((w0.alloc (.cells #[.slice none 0 0] 22)).alloc (.cells #[.int .i64 0] 23)).alloc (.cells #[.slice none 0 0] 22)).alloc (.cells #[.string (bs X)] 9)).alloc (.cells #[.func (.func 15) #[] #[]] 41)) := (((((Below.refl _ _).alloc (Nat.le_refl _) _).alloc (by simp) _).alloc (by simp; omega) _).alloc (by simp; omega) _).alloc (by simp; omega) _
  have hsz : (((((w0.alloc (.cells #[.slice none 0 0] 22)).alloc (.cells #[.int .i64 0] 23)).alloc (.cells #[.slice none 0 0] 22)).alloc (.cells #[.string (bs X)] 9)).alloc (.cells #[.func (.func 15) #[] #[]] 41)).heap.size = w0.heap.size + 5 := by simp
  generalize ((((w0.alloc (.cells #[.slice none 0 0] 22)).alloc (.cells #[.int .i64 0] 23)).alloc (.cells #[.slice none 0 0] 22)).alloc (.cells #[.string (bs X)] 9)).alloc (.cells #[.func (.func 15) #[] #[]] 41) = V at hR1 hR2 hR3 hR4 hR5 hbl hsz ⊢
  have hvz : w0.heap.size + 5 ≤ V.heap.size := by omega
  clear hsz
  refine range_fields (X := X) (sb := w0.heap.size + 1 + 1 + 1) (fb := w0.heap.size + 1 + 1 + 1 + 1) (by omega) hR4 hR5 rfl rfl (ItI w0 V.heap.size) (ItX w0 X)
    (fun x => { tmps := #[.string (bs X), undef, .pointer (some ⟨w0.heap.size, 0, none⟩), .pointer (some ⟨w0.heap.size + 1, 0, none⟩), .pointer (some ⟨w0.heap.size + 1 + 1, 0, none⟩), .string (bs x), undef, undef, undef, .string (bs X), .func (.func 31) #[] #[.pointer (some ⟨w0.heap.size + 1 + 1 + 1, 0, none⟩), .pointer (some ⟨w0.heap.size + 1 + 1 + 1 + 1, 0, none⟩)], .string (bs x), undef, undef, undef, undef, undef, undef, undef, undef, undef, undef, undef, undef, undef, undef, undef, undef, undef, undef, undef, undef, undef, undef], defers := [] })
    ?hI ?hIx ?hT ?h0 ?assign ?body ?done ?stop
  case hI =>
    rintro pre A B ⟨L, v, h1, h2, h⟩ ho
    exact ⟨L, v, h1, h2, h.only ho (fun k hk => by unfold RgF; omega) (fun k hk => by unfold RgF; omega)⟩
  case hIx =>
    rintro c pre A B ⟨hc, h1, h2, h3, h4⟩ ho
    exact ⟨hc, h1, h2.only ho (by unfold RgF; omega), h3.only ho (by unfold RgF; omega), h4.trans ⟨ho.os, ho.tape, ho.output, ho.size, fun k hk => ho.block k (by have := h4.size; omega) (by unfold RgF; omega)⟩⟩
  case hT =>
    rintro pre A ⟨L, v, h1, h2, h⟩
    exact tabs_below hT'.out h.bel
  case h0 => exact ⟨[], _, rfl, by simp, hR3, World.ownsRow_nil _ _ _ _, hR1, hR2, hbl⟩
  case assign =>
    intro l x W K hK
    gi_wp2
    exact hK
  case body =>
    rintro l pre x W ⟨L, v, hrd, hL, hS⟩ hp hz
    obtain ⟨va, vc, rfl⟩ := own_slice' hS.row
    have hxl : x.length ≤ X.length := by
      obtain ⟨r, hr⟩ := hp
      have hm : x ∈ wsA [] X := by rw [← hr]; simp
      have := ws_len X [] x hm
      simpa using this
    have k16 := readWord_any x W (hG'.out.below hS.bel) (by omega)
    have k16 : Calls Tryd.prog 16 #[.string (bs x)] W fun e w' => RwP (rwF x) e ∧ Below W.heap.size W w' := k16
    have hst := @inF_stop okR (wsA [] X) pre x L hp hrd
    have hsn := @inF_snoc okR pre x L hrd
    have hbw := hS.bel.size
    have wz : IntKind.i64.wrap (65536 - (L.length : Int)) = 65536 - (L.length : Int) := wrap64 _ (by omega)
    have HX : Hid (∀ (W2 : World) (a : Act), ItV w0 V.heap.size L (.slice va L.length vc) W2 → Below W.heap.size W W2 → okR L.length x = none → endF (ItI w0 V.heap.size) (ItX w0 X) V.heap.size (w0.heap.size + 1 + 1 + 1) (w0.heap.size + 1 + 1 + 1 + 1) (pre ++ [x]) W .ret a ((W2.setCell ⟨w0.heap.size, 0, none⟩ (.slice none 0 0)).setCell ⟨w0.heap.size + 1, 0, none⟩ (.int .i64 141))) := by
      intro W2 a hS2 hB2 hn
      have hO := ((Only.refl (fun k => k = w0.heap.size ∨ k = w0.heap.size + 1) W2).set (b := w0.heap.size) (i := 0) (.inl rfl) (.slice none 0 0)).set (b := w0.heap.size + 1) (i := 0) (.inr rfl) (.int .i64 141)
      refine ⟨⟨by have := hO.size; have := hB2.size; omega, fun k hk hlt => (hO.block k (by have := hB2.size; omega) (by unfold RgF at hk; omega)).trans (hB2.block k hlt)⟩, rfl, hst hn, ((hS2.r1.set 0 (by simp) (.slice none 0 0)).far (by omega) _), ((hS2.r2.far (by omega) _).set 0 (by simp) (.int .i64 141)), ((hS2.bel.setCell (p := ⟨w0.heap.size, 0, none⟩) (Nat.le_refl _) _).setCell (p := ⟨w0.heap.size + 1, 0, none⟩) (by simp) _)⟩
    have HN : Hid (∀ (W2 W' : World) (v' : Value) (L' : List Int) (a : Act), Below W.heap.size W W2 → inF okR (pre ++ [x]) [] = some L' → L'.length ≤ 65536 → ItV w0 V.heap.size L' v' W' → W2.heap.size ≤ W'.heap.size → (∀ k, (k = w0.heap.size + 1 + 1 + 1 ∨ k = w0.heap.size + 1 + 1 + 1 + 1 ∨ RgF V.heap.size k) → k < W2.heap.size → W'.heap[k]? = W2.heap[k]?) → endF (ItI w0 V.heap.size) (ItX w0 X) V.heap.size (w0.heap.size + 1 + 1 + 1) (w0.heap.size + 1 + 1 + 1 + 1) (pre ++ [x]) W .normal a W') := by
      intro W2 W' v' L' a hB2 hn hl hS' hz' hk'
      have := hB2.size
      exact ⟨⟨by omega, fun k hk hlt => (hk' k hk (by omega)).trans (hB2.block k hlt)⟩, L', v', hn, hl, hS'⟩
    cases hrw : rwF x with
    | none =>
      rw [hrw] at k16
      have hno : Hid (okR L.length x = none) := by show _ = _; unfold okR; rw [hrw]
      have k16' : Hid _ := k16
      clear k16 hst hsn hrw HN
      gi_wp2_with (refine ⟨trivial, ?_⟩; gi_at_call 16; refine (CallsIn.inRound l (callsIn_wide.2 k16'.out)).mono ?_; rintro e W1 ⟨⟨xa, xb, rfl⟩, hB1⟩; have hS1 := hS.below hB1; have hl1 : W1.cell? ⟨w0.heap.size + 1 + 1, 0, none⟩ = some (.slice va L.length vc) := hS1.list.2.1 0; obtain ⟨p0, P1, p2⟩ := id hS1.r1; obtain ⟨q0, Q1, q2⟩ := id hS1.r2)
      exact HX.out _ _ hS1 hB1 hno.out
    | some p =>
      obtain ⟨n, xv⟩ := p
      obtain ⟨hn1, hn2⟩ := rwF_pos hrw
      dsimp only at hn1 hn2
      rw [hrw] at k16
      unfold RwP at k16
      dsimp only at k16
      have k16' : Hid _ := k16
      by_cases hc : 65536 - L.length < n
      · have hno : Hid (okR L.length x = none) := by show _ = _; unfold okR; rw [hrw]; exact if_pos hc
        have ci : 65536 - (L.length : Int) < (n : Int) := by omega
        clear k16 hst hsn hrw HN
        gi_wp2_with (refine ⟨trivial, ?_⟩; gi_at_call 16; refine (CallsIn.inRound l (callsIn_wide.2 k16'.out)).mono ?_; rintro e W1 ⟨rfl, hB1⟩; have hS1 := hS.below hB1; have hl1 : W1.cell? ⟨w0.heap.size + 1 + 1, 0, none⟩ = some (.slice va L.length vc) := hS1.list.2.1 0; obtain ⟨p0, P1, p2⟩ := id hS1.r1; obtain ⟨q0, Q1, q2⟩ := id hS1.r2)
        exact HX.out _ _ hS1 hB1 hno.out
      · have hyes : Hid (inF okR (pre ++ [x]) [] = some (L ++ List.replicate n (xv : Int))) := by
          show _ = _
          rw [hsn]
          have : okR L.length x = some (n, xv) := by unfold okR; rw [hrw]; exact if_neg hc
          rw [this]
        have ci : ¬ 65536 - (L.length : Int) < (n : Int) := by omega
        clear k16 hst hsn hrw HX
        gi_wp2_with (refine ⟨trivial, ?_⟩; gi_at_call 16; refine (CallsIn.inRound l (callsIn_wide.2 k16'.out)).mono ?_; rintro e W1 ⟨rfl, hB1⟩; have hS1 := hS.below hB1; have hl1 : W1.cell? ⟨w0.heap.size + 1 + 1, 0, none⟩ = some (.slice va L.length vc) := hS1.list.2.1 0; obtain ⟨p0, P1, p2⟩ := id hS1.r1; obtain ⟨q0, Q1, q2⟩ := id hS1.r2)
        have hz1 := hB1.size
        refine region7_any w0 W1 V.heap.size l _ L _ n xv _ _ _ _ _ _ _ _ _ _ _ _ _ _ _ _ _ _ _ _ _ _ _ _ _ _ _ _ _ _ _ _ _ hS1 hvz (by omega) hn1 (by omega) ?_
        intro a v' W' hS' hz' hk'
        exact HN.out W1 W' v' _ a hB1 hyes.out (by simp; omega) hS' hz' hk'
  case done =>
    rintro W ⟨L, v, hrd, hL, hS⟩ hD hz
    obtain ⟨va, vc, rfl⟩ := own_slice' hS.row
    obtain ⟨l0, L1, l2⟩ := id hS.list
    obtain ⟨p0, P1, p2⟩ := id hS.r1
    obtain ⟨q0, Q1, q2⟩ := id hS.r2
    gi_wp2
    have hE1 := (hS.r1.set 0 (by simp) (.slice va L.length vc)).far (c := w0.heap.size + 1) (i := 0) (by omega) (.int .i64 0)
    have hE2 := (hS.r2.far (c := w0.heap.size) (i := 0) (by omega) (.slice va L.length vc)).set 0 (by simp) (.int .i64 0)
    have hO := ((Only.refl (fun k => k = w0.heap.size ∨ k = w0.heap.size + 1) W).set (b := w0.heap.size) (i := 0) (.inl rfl) (.slice va L.length vc)).set (b := w0.heap.size + 1) (i := 0) (.inr rfl) (.int .i64 0)
    have hB := (hS.bel.setCell (p := ⟨w0.heap.size, 0, none⟩) (Nat.le_refl _) (.slice va L.length vc)).setCell (p := ⟨w0.heap.size + 1, 0, none⟩) (by simp) (.int .i64 0)
    have hrow2 := own_only hS.row hO (fun k hk => by omega)
    have hD1 := (hO.block V.heap.size (by omega) (by omega)).trans hD
    generalize ((W.setCell ⟨w0.heap.size, 0, none⟩ (.slice va L.length vc)).setCell ⟨w0.heap.size + 1, 0, none⟩ (.int .i64 0)) = U at *
    have hP : Only (fun k => k = V.heap.size) U (U.putObj V.heap.size (.deferred none)) := (Only.refl (fun k => k = V.heap.size) U).put (r := V.heap.size) _ rfl
    have hF1 := hE1.only hP (by omega)
    have hF2 := hE2.only hP (by omega)
    obtain ⟨e0, E1, e2⟩ := id hF1
    obtain ⟨f0, F1, f2⟩ := id hF2
    refine ⟨by simp, .inl ⟨_, _, rfl, run_takeDeferred hD1, ?_⟩⟩
    refine ⟨.tuple #[.slice va L.length vc, .int .i64 0], ?_, ?_⟩
    · simp [results, Tryd.results7, go_sem, E1, F1]
    · rw [hrd]
      refine ⟨⟨_, rfl, ?_, hL⟩, hB.trans ⟨rfl, rfl, rfl, by simp, fun k hk => hP.block k (by have := hB.size; omega) (by omega)⟩⟩
      rw [← uc_map]
      exact own_mono (own_only hrow2 hP (fun k hk => by omega)) (by omega)
  case stop =>
    rintro c pre W hp ⟨rfl, hn, h1, h2, h3⟩ hD hz
    gi_wp2
    have hP : Only (fun k => k = V.heap.size) W (W.putObj V.heap.size (.deferred none)) := (Only.refl (fun k => k = V.heap.size) W).put (r := V.heap.size) _ rfl
    have hF1 := h1.only hP (by omega)
    have hF2 := h2.only hP (by omega)
    obtain ⟨e0, E1, e2⟩ := id hF1
    obtain ⟨f0, F1, f2⟩ := id hF2
    refine ⟨by simp, .inl ⟨_, _, rfl, run_takeDeferred hD, ?_⟩⟩
    refine ⟨.tuple #[.slice none 0 0, .int .i64 141], ?_, ?_⟩
    · simp [results, Tryd.results7, go_sem, E1, F1]
    · rw [hn]
      exact ⟨rfl, h3.trans ⟨rfl, rfl, rfl, by simp, fun k hk => hP.block k (by have := h3.size; omega) (by omega)⟩⟩
theorem inputs_any (X : List UInt8) (w : World) (hG : Sg w) (hT : Lib.Utf8Tabs 0 1 w) (hX : X.length ≤ 140737488355328) : Calls Tryd.prog 7 #[.string (bs X)] w fun e w' => InP (inF okW (wsA [] X) []) w e w' := by
  have h := callsIn_wide.1 (inputs_in X w hG hT hX)
  rwa [inF_same (wsA [] X) [] (by simp)] at h
end Go.Proofs.YtcajejfddfiidaaDoor
