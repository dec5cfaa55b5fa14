import Derived.Test.YtddphepgcihdbaaTbF
import Derived.Maps.Own
import Derived.Maps.OwnSet
import Derived.Maps.Views
import Derived.StringKeys
namespace Go.Proofs.Ytddphepgcihdbaa
open Go.RowKit
set_option linter.unusedVariables false
set_option linter.unusedSimpArgs false

open Go.Maps
def rH (v : Value) : Option (DataW Value × List MemPlace) := some (.held v, [])
/-- What a map of these keys is. -/
structure Dq (D : DataW Value) (ks : List Lit) : Prop where
  t : Tidy D
  has : ∀ x, Maps.has D x = true ↔ x ∈ ks
  le : Maps.size D ≤ ks.length
  eq : Maps.size D = ks.length ↔ ks.Nodup
theorem Dq.nil : Dq (.map []) [] := ⟨tidy_empty, fun x => by simp [Maps.has], by simp [Maps.size], by simp [Maps.size]⟩
theorem Dq.put {D : DataW Value} {ks : List Lit} (h : Dq D ks) {k : Lit} (hk : WideAt.IsKeyLit k) (d : DataW Value) : Dq (D.put k d) (ks ++ [k]) := by
  have hs := size_put (k := k) h.t d
  have hh := h.has k
  have hle := h.le
  refine ⟨h.t.put hk d, fun x => ?_, ?_, ?_⟩
  · by_cases e : x = k
    · subst e
      rw [has_put_same h.t.isMap hk]; simp
    · rw [has_put_other e, h.has]; simp [e]
  · rw [hs]; simp only [List.length_append, List.length_singleton]; split <;> omega
  · rw [hs]
    have hnd : (ks ++ [k]).Nodup ↔ ks.Nodup ∧ k ∉ ks := by
      rw [List.nodup_append]
      constructor
      · rintro ⟨a, _, c⟩; exact ⟨a, fun hm => c k hm k (by simp) rfl⟩
      · rintro ⟨a, c⟩; exact ⟨a, by simp, fun x hx y hy => by simp at hy; subst hy; exact fun e => c (e ▸ hx)⟩
    rw [hnd, ← h.eq]
    simp only [List.length_append, List.length_singleton]
    by_cases e : Maps.has D k = true
    · rw [if_pos e]
      have := hh.1 e
      constructor
      · intro h1; omega
      · rintro ⟨_, h2⟩; exact absurd this h2
    · rw [if_neg e]
      have h3 : k ∉ ks := fun hm => e (hh.2 hm)
      constructor
      · intro h1; exact ⟨by omega, h3⟩
      · rintro ⟨h1, _⟩; omega
theorem om_below {P : Program} {kt : TypeId} {R : Value → Option (DataW Value × List MemPlace)} {w w' : World} {b n : Nat} {D : DataW Value} (h : w.ownsMap P kt R b n D) (hb : Below w.heap.size w w') : w'.ownsMap P kt R b n D := by
  have hl := h.lt
  obtain ⟨es, cl, h1, h2⟩ := h
  exact ⟨es, cl, (hb.block b hl).trans h1, h2⟩
theorem key9 : Keyed Try.prog 9 := string_keyed Try.underlying9
theorem key3 : Keyed Try.prog 3 := int_keyed Try.underlying3
theorem keys_take {α : Type} (f : α → Lit) (L : List α) (k : Nat) (h : k < L.length) : ((L.take k).map f) ++ [f L[k]] = (L.take (k + 1)).map f := by
  rw [List.take_succ_eq_append_getElem h, List.map_append]; rfl
set_option maxRecDepth 100000 in
set_option maxHeartbeats 4000000 in
theorem k60 (x : Dk) (w : World) : Calls Try.prog 52 #[.agg #[.string x.name, x.rv]] w fun e w' => e = .returned (.string x.name) ∧ Below w.heap.size w w' := by
  obtain ⟨m, p, r⟩ := x
  dsimp only at *
  go_enter Try.func52, Try.ntmps52
  go_wp2
  go_ret
  exact ⟨rfl, bel1⟩
set_option maxRecDepth 100000 in
set_option maxHeartbeats 4000000 in
theorem differD (L : List Dk) (a : Option Addr) (c : Nat) (w : World) (hL : L = [] ∨ ∃ g o, a = some ⟨g, o, none⟩ ∧ g < w.heap.size ∧ ∀ (i : Nat) (h : i < L.length) (j : Nat) (u : Value), (Dk.cs L[i])[j]? = some u → w.cell? ⟨g, o + i * 2 + j, none⟩ = some u) (hl : L.length ≤ 3518437208781) (hs : ∀ x ∈ L, x.name.size ≤ 140737488355328) (hv : ∀ x ∈ L, ∃ a c, x.rv = .slice a x.rows.length c) (R : Bool) (hRR : R = true ↔ (L.map (fun (x : Dk) => Lit.string x.name.data.toList)).Nodup) :
    Calls Try.prog 51 #[.slice a L.length c, .func (.func 52) #[] #[]] w fun e w' => e = .returned (.bool R) ∧ Below w.heap.size w w' := by
  have hmm : ∀ (W : World) (n : Int), 0 ≤ n → (Instr.makeMap 116 (some (.int .i64 n))).run Try.prog W = .ok (.map (some W.heap.size)) (W.alloc (.map #[] 0)) := fun W n hn => by simp [Instr.makeMap, underlying, Try.underlying116]; rfl
  have hR : Hid (∀ D, Dq D (L.map (fun (x : Dk) => Lit.string x.name.data.toList)) → ((Maps.size D : Int) == (L.length : Int)) = R) := by
    intro D hD
    have h1 := hD.eq
    rw [List.length_map] at h1
    rw [Bool.eq_iff_iff]
    rw [hRR, ← h1]
    simp only [beq_iff_eq]
    omega
  have hz : (0 : Int) ≤ (L.length : Int) := by omega
  clear hRR
  go_enter Try.func51, Try.ntmps51
  go_wp2
  go_loopg [7, 13] L.length (fun gk s7 s13 wr => ∃ (k : Nat) (D : DataW Value), k + gk = L.length ∧ s13 = .int .i64 (k : Int) ∧ Hid (wr.ownsMap Try.prog 9 rH w.heap.size k D) ∧ Hid (Dq D ((L.take k).map (fun (x : Dk) => Lit.string x.name.data.toList))) ∧ Below w.heap.size w wr)
  case atStart => exact ⟨0, _, by omega, rfl, World.ownsMap_made w Try.prog 9 rH, Dq.nil, bel1⟩
  case round =>
    obtain ⟨k, D, hk, rfl, hM, hD, hb⟩ := hrel
    by_cases hlt : k < L.length
    · obtain ⟨g, o, rfl, hg, P⟩ := hL.resolve_left (by intro e; rw [e] at hlt; simp at hlt)
      have p0 := (hb.cell (p := ⟨g, _, none⟩) hg).trans (P k hlt 0 _ rfl)
      have p1 := (hb.cell (p := ⟨g, _, none⟩) hg).trans (P k hlt 1 _ rfl)
      simp only [Nat.add_zero] at p0
      have t1 : (k : Int) < (L.length : Int) := by omega
      have t0 : (0 : Int) ≤ (k : Int) := by omega
      have hkey := Go.WideMaps.keyOf_string_mk (P := Try.prog) (k := 9) (s := L[k].name) Try.underlying9 (by have := hs _ (List.getElem_mem hlt); unfold maxLen; omega)
      have hD2 : Hid (Dq (D.put (.string L[k].name.data.toList) (.held (.agg #[]))) ((L.take (k + 1)).map (fun (x : Dk) => Lit.string x.name.data.toList))) := by
        show Dq _ _
        rw [← keys_take _ L k hlt]
        exact hD.out.put (by first | trivial | exact WideAt.isKeyLit_of_keyOf hkey | simp [WideAt.IsKeyLit]) _
      have kc := fun W => k60 L[k] W
      have hM1 := hM.out.alloc (.cells #[.string L[k].name, L[k].rv] 72)
      obtain ⟨ra, rc, hrv⟩ := hv _ (List.getElem_mem hlt)
      simp only [hrv] at p1 kc hM1
      clear hrv hv
      clear P hL hD hM hs
      go_wp2_with (first
        | (go_at_call 52; (with_reducible refine (kc _).mono ?_); rintro e w1 ⟨rfl, hb1⟩; have hM2 := om_below hM1 hb1; have hb2 : Below w.heap.size w w1 := belT (belT hb bel1) hb1)
        | (at_mapUpdate; refine wpList_mapUpdate_own _ rfl _ _ _ 116 rfl 9 117 key9 Try.underlying116 rH w.heap.size k D rfl hM2 (by unfold maxLen; omega) _ _ (.string L[k].name.data.toList) rfl rfl hkey (.held (.agg #[])) [] rfl ?_; intro w2 hM3 hg3))
      have hb3 : Below w.heap.size w w2 := grown_bel hb2 hg3 (Nat.le_refl _) (fun q hq => by injection hq with e; omega)
      go_roundg (gk - 1)
      case measure => go_light; omega
      case rel => exact ⟨k + 1, _, by omega, by go_num, hM3, hD2, hb3⟩
    · obtain rfl : k = L.length := by omega
      have t1 : ¬ (L.length : Int) < (L.length : Int) := by omega
      have hsz := hR.out D (by have := hD.out; rwa [List.take_length] at this)
      have hM1 := hM.out
      clear hL hD hM hs
      go_wp2_with (at_len; refine wpList_len_own _ rfl _ 116 rfl 9 117 Try.underlying116 rH w.heap.size L.length D rfl hM1 ?_)
      go_ret
      first | exact ⟨rfl, hb⟩ | exact ⟨ret_bool hsz, hb⟩
set_option maxRecDepth 100000 in
set_option maxHeartbeats 4000000 in
theorem k62 (x : Ex) (w : World) : Calls Try.prog 54 #[.agg #[.int .i64 x.day, .int .i64 x.kind]] w fun e w' => e = .returned (.int .i64 x.day) ∧ Below w.heap.size w w' := by
  obtain ⟨m, p⟩ := x
  dsimp only at *
  go_enter Try.func54, Try.ntmps54
  go_wp2
  go_ret
  exact ⟨rfl, bel1⟩
set_option maxRecDepth 100000 in
set_option maxHeartbeats 4000000 in
theorem differX (L : List Ex) (a : Option Addr) (c : Nat) (w : World) (hL : L = [] ∨ ∃ g o, a = some ⟨g, o, none⟩ ∧ g < w.heap.size ∧ ∀ (i : Nat) (h : i < L.length) (j : Nat) (u : Value), (Ex.cs L[i])[j]? = some u → w.cell? ⟨g, o + i * 2 + j, none⟩ = some u) (hl : L.length ≤ 8796093021952) (hs : ∀ x ∈ L, (Lit.int .i64 x.day).wf = true) (R : Bool) (hRR : R = true ↔ (L.map (fun (x : Ex) => Lit.int .i64 x.day)).Nodup) :
    Calls Try.prog 53 #[.slice a L.length c, .func (.func 54) #[] #[]] w fun e w' => e = .returned (.bool R) ∧ Below w.heap.size w w' := by
  have hmm : ∀ (W : World) (n : Int), 0 ≤ n → (Instr.makeMap 118 (some (.int .i64 n))).run Try.prog W = .ok (.map (some W.heap.size)) (W.alloc (.map #[] 0)) := fun W n hn => by simp [Instr.makeMap, underlying, Try.underlying118]; rfl
  have hR : Hid (∀ D, Dq D (L.map (fun (x : Ex) => Lit.int .i64 x.day)) → ((Maps.size D : Int) == (L.length : Int)) = R) := by
    intro D hD
    have h1 := hD.eq
    rw [List.length_map] at h1
    rw [Bool.eq_iff_iff]
    rw [hRR, ← h1]
    simp only [beq_iff_eq]
    omega
  have hz : (0 : Int) ≤ (L.length : Int) := by omega
  clear hRR
  go_enter Try.func53, Try.ntmps53
  go_wp2
  go_loopg [7, 13] L.length (fun gk s7 s13 wr => ∃ (k : Nat) (D : DataW Value), k + gk = L.length ∧ s13 = .int .i64 (k : Int) ∧ Hid (wr.ownsMap Try.prog 3 rH w.heap.size k D) ∧ Hid (Dq D ((L.take k).map (fun (x : Ex) => Lit.int .i64 x.day))) ∧ Below w.heap.size w wr)
  case atStart => exact ⟨0, _, by omega, rfl, World.ownsMap_made w Try.prog 3 rH, Dq.nil, bel1⟩
  case round =>
    obtain ⟨k, D, hk, rfl, hM, hD, hb⟩ := hrel
    by_cases hlt : k < L.length
    · obtain ⟨g, o, rfl, hg, P⟩ := hL.resolve_left (by intro e; rw [e] at hlt; simp at hlt)
      have p0 := (hb.cell (p := ⟨g, _, none⟩) hg).trans (P k hlt 0 _ rfl)
      have p1 := (hb.cell (p := ⟨g, _, none⟩) hg).trans (P k hlt 1 _ rfl)
      simp only [Nat.add_zero] at p0
      have t1 : (k : Int) < (L.length : Int) := by omega
      have t0 : (0 : Int) ≤ (k : Int) := by omega
      have hkey := Maps.keyOf_int_mk (P := Try.prog) (k := 3) Try.underlying3 (hs _ (List.getElem_mem hlt))
      have hD2 : Hid (Dq (D.put (.int .i64 L[k].day) (.held (.agg #[]))) ((L.take (k + 1)).map (fun (x : Ex) => Lit.int .i64 x.day))) := by
        show Dq _ _
        rw [← keys_take _ L k hlt]
        exact hD.out.put (by first | trivial | exact WideAt.isKeyLit_of_keyOf hkey | simp [WideAt.IsKeyLit]) _
      have kc := fun W => k62 L[k] W
      have hM1 := hM.out.alloc (.cells #[.int .i64 L[k].day, .int .i64 L[k].kind] 58)
      clear P hL hD hM hs
      go_wp2_with (first
        | (go_at_call 54; (with_reducible refine (kc _).mono ?_); rintro e w1 ⟨rfl, hb1⟩; have hM2 := om_below hM1 hb1; have hb2 : Below w.heap.size w w1 := belT (belT hb bel1) hb1)
        | (at_mapUpdate; refine wpList_mapUpdate_own _ rfl _ _ _ 118 rfl 3 117 key3 Try.underlying118 rH w.heap.size k D rfl hM2 (by unfold maxLen; omega) _ _ (.int .i64 L[k].day) rfl rfl hkey (.held (.agg #[])) [] rfl ?_; intro w2 hM3 hg3))
      have hb3 : Below w.heap.size w w2 := grown_bel hb2 hg3 (Nat.le_refl _) (fun q hq => by injection hq with e; omega)
      go_roundg (gk - 1)
      case measure => go_light; omega
      case rel => exact ⟨k + 1, _, by omega, by go_num, hM3, hD2, hb3⟩
    · obtain rfl : k = L.length := by omega
      have t1 : ¬ (L.length : Int) < (L.length : Int) := by omega
      have hsz := hR.out D (by have := hD.out; rwa [List.take_length] at this)
      have hM1 := hM.out
      clear hL hD hM hs
      go_wp2_with (at_len; refine wpList_len_own _ rfl _ 118 rfl 3 117 Try.underlying118 rH w.heap.size L.length D rfl hM1 ?_)
      go_ret
      first | exact ⟨rfl, hb⟩ | exact ⟨ret_bool hsz, hb⟩
theorem nodup_names (L : List Dk) : (L.map (fun (x : Dk) => Lit.string x.name.data.toList)).Nodup ↔ (L.map (·.name)).Nodup := by
  have e : L.map (fun (x : Dk) => Lit.string x.name.data.toList) = (L.map (·.name)).map (fun s => Lit.string s.data.toList) := by simp
  rw [e]
  constructor
  · intro h; exact List.Pairwise.of_map _ (fun a c hne e => hne (by rw [e])) h
  · intro h
    refine List.Pairwise.map _ ?_ h
    intro a c hne heq
    apply hne
    injection heq with h1
    cases a; cases c
    simp at h1
    rw [h1]
theorem nodup_days (L : List Ex) : (L.map (fun (x : Ex) => Lit.int .i64 x.day)).Nodup ↔ (L.map (·.day)).Nodup := by
  have e : L.map (fun (x : Ex) => Lit.int .i64 x.day) = (L.map (·.day)).map (fun s => Lit.int .i64 s) := by simp
  rw [e]
  constructor
  · intro h; exact List.Pairwise.of_map _ (fun a c hne e => hne (by rw [e])) h
  · intro h
    refine List.Pairwise.map _ ?_ h
    intro a c hne heq
    apply hne
    injection heq
set_option maxRecDepth 100000 in
set_option maxHeartbeats 4000000 in
theorem isEachOnce_any (t : Tt) (aD aS aX aH : Option Addr) (cD cS cX cH : Nat) (w : World) (hR : TR w t (.slice aD t.D.length cD) (.slice aS t.S.length cS) (.slice aX t.X.length cX) (.slice aH t.H.length cH)) : Calls Try.prog 30 #[.agg #[.string t.nm, .slice aD t.D.length cD, .int .i64 t.w0, .int .i64 t.w1, .int .i64 t.w2, .int .i64 t.w3, .int .i64 t.w4, .int .i64 t.w5, .int .i64 t.w6, .slice aS t.S.length cS, .slice aX t.X.length cX, .slice aH t.H.length cH]] w fun e w' => e = .returned (.bool t.oneB) ∧ Below w.heap.size w w' := by
  have c0 := fun W (hb : Below w.heap.size w W) => differD t.D aD cD W (hR.below hb).d.ln hR.dl hR.ndl (fun x hx => by obtain ⟨a, c, e, _⟩ := (hR.r x hx).any; exact ⟨a, c, e⟩) (decide (t.D.map (·.name)).Nodup) (by rw [decide_eq_true_eq, nodup_names])
  have c1 := fun W (hb : Below w.heap.size w W) => differX t.X aX cX W (hR.below hb).x.ln hR.xl hR.xw (decide (t.X.map (·.day)).Nodup) (by rw [decide_eq_true_eq, nodup_days])
  unfold Tt.oneB
  generalize decide (t.D.map (·.name)).Nodup = b0 at *
  generalize decide (t.X.map (·.day)).Nodup = b1 at *
  clear hR
  cases b0 with
  | false =>
    go_enter Try.func30, Try.ntmps30
    go_wp2_with (go_at_call 51; (with_reducible refine (c0 _ bel1).mono ?_); rintro e w0 ⟨rfl, hb0⟩)
    go_ret
    exact ⟨rfl, belT bel1 hb0⟩
  | true =>
    go_enter Try.func30, Try.ntmps30
    go_wp2_with (first | (go_at_call 51; (with_reducible refine (c0 _ bel1).mono ?_); rintro e w0 ⟨rfl, hb0⟩; have B0 := ((Has.new w #[.string t.nm, .slice aD t.D.length cD, .int .i64 t.w0, .int .i64 t.w1, .int .i64 t.w2, .int .i64 t.w3, .int .i64 t.w4, .int .i64 t.w5, .int .i64 t.w6, .slice aS t.S.length cS, .slice aX t.X.length cX, .slice aH t.H.length cH] 29 rfl).below hb0); have hb0' := belT bel1 hb0; obtain ⟨_, q0, _⟩ := id B0) | (go_at_call 53; (with_reducible refine (c1 _ hb0').mono ?_); rintro e w1 ⟨rfl, hb1⟩))
    go_ret
    exact ⟨by first | rfl | simp, belT hb0' hb1⟩
end Go.Proofs.Ytddphepgcihdbaa
