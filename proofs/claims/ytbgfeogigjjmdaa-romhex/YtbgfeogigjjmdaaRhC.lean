import Derived.Test.YtbgfeogigjjmdaaRhB
import Derived.Test.YtbgfeogigjjmdaaHxX
import Derived.Laws.AppendOwnNone
namespace Go.Proofs.Ytbgfeogigjjmdaa
open Go.RowKit
set_option linter.unusedVariables false

theorem own_new (w : World) (cs : Array Value) (n : Nat) (hn : cs.size = n) (hm : n ≤ maxLen) : (w.alloc (.cells cs 5)).ownsRow w.heap.size 5 1 (.slice (some ⟨w.heap.size, 0, none⟩) n n) n cs.toList := by
  subst hn
  refine ⟨by simp, .inr ⟨w.heap.size, cs.size, cs, rfl, Nat.le_refl _, ?_, Nat.le_refl _, hm, by omega, ?_⟩⟩
  · show (w.heap.push _)[w.heap.size]? = _
    simp
  · rw [Nat.mul_one, List.take_of_length_le (by simp)]
theorem sum_take (A : List Nat) (k : Nat) (h : k < A.length) : (A.take (k + 1)).sum = (A.take k).sum + A.getD k 0 := by
  rw [List.take_succ_eq_append_getElem h, List.sum_append]
  simp [List.getD_eq_getElem?_getD, h]
theorem sum_le (A : List Nat) (h : ∀ x ∈ A, x < 256) : ∀ k, (A.take k).sum ≤ 256 * k
  | 0 => by simp
  | k + 1 => by
    by_cases hk : k < A.length
    · rw [sum_take A k hk]
      have := sum_le A h k
      have := getD_lt h k
      omega
    · have e : A.take (k + 1) = A.take k := by rw [List.take_of_length_le (by omega), List.take_of_length_le (by omega)]
      rw [e]
      have := sum_le A h k
      omega
theorem hx_take (A : List Nat) (k : Nat) (h : k < A.length) : hx (A.take (k + 1)) = hx (A.take k) ++ h2 (A.getD k 0) := by
  rw [List.take_succ_eq_append_getElem h, hx_app]
  simp [hx, List.getD_eq_getElem?_getD, h]

set_option maxRecDepth 100000 in
set_option maxHeartbeats 4000000 in
theorem record_any (B : Nat) (X : List Nat) (v : Value) (kind address : Nat) (L : List Nat) (d o dc : Nat) (w : World) (hown : w.ownsRow B 5 1 v X.length (v8 X)) (hB : B ≤ w.heap.size) (hL : ∀ x ∈ L, x < 256) (hp : 0 < L.length) (hl : L.length ≤ 255) (hd : d < w.heap.size) (hcl : ∀ i, i < L.length → w.cell? ⟨d, o + i, none⟩ = some (.int .u8 ((L.getD i 0 : Nat) : Int))) (hk : kind < 256) (ha : address < 65536) (hlen : X.length + 600 ≤ 140737488355328) :
    Calls Try.prog 14 #[v, .int .i64 (kind : Int), .int .i64 (address : Int), .slice (some ⟨d, o, none⟩) L.length dc] w fun e w' => ∃ v', e = .returned v' ∧ w'.ownsRow B 5 1 v' (X ++ recT kind address L).length (v8 (X ++ recT kind address L)) ∧ Below B w w' := by
  obtain ⟨i5, hi, hz0, hz1, hz2⟩ := info_parts info5
  have hT : Hid (X ++ recT kind address L = X ++ [58] ++ hx (hd4 kind address L ++ L) ++ h2 (chk (hd4 kind address L ++ L)) ++ [10]) := by
    show _ = _
    rw [hx_app]
    simp [recT, hx]
  have hA : Hid (∀ x ∈ hd4 kind address L ++ L, x < 256) := by
    intro x hx
    rcases List.mem_append.1 hx with h | h
    · exact hd4_lt hk x h
    · exact hL x h
  have hAl : Hid ((hd4 kind address L ++ L).length = 4 + L.length) := by show _ = _; rw [List.length_append]; rfl
  have hhd : Hid (v8 (hd4 kind address L) = [.int .u8 (L.length : Int), .int .u8 ((address : Int) / 256), .int .u8 ((address : Int) % 256), .int .u8 (kind : Int)]) := by
    show _ = _
    have g1 : ((L.length % 256 : Nat) : Int) = (L.length : Int) := by omega
    have g2 : ((address / 256 % 256 : Nat) : Int) = (address : Int) / 256 := by omega
    have g3 : ((address % 256 : Nat) : Int) = (address : Int) % 256 := by omega
    rw [← g1, ← g2, ← g3]; rfl
  have hq1 : Hid (X.length + 1 ≤ maxLen) := by show _ ≤ _; unfold maxLen; omega
  have hq2 : Hid ((X.length + 1) * 1 ≤ 140737488355328) := by show _ ≤ _; omega
  have hown' : Hid (w.ownsRow B 5 1 v X.length (v8 X)) := hown
  clear hown
  go_enter Try.func14, Try.ntmps14
  have hE1 : Below w.heap.size w (w.alloc (.cells #[.int .u8 (L.length : Int), .int .u8 ((address : Int) / 256), .int .u8 ((address : Int) % 256), .int .u8 (kind : Int)] 5)) := (Below.refl _ _).alloc (Nat.le_refl _) _
  have own1 : (w.alloc (.cells #[.int .u8 (L.length : Int), .int .u8 ((address : Int) / 256), .int .u8 ((address : Int) % 256), .int .u8 (kind : Int)] 5)).ownsRow w.heap.size 5 1 (.slice (some ⟨w.heap.size, 0, none⟩) 4 4) 4 [.int .u8 (L.length : Int), .int .u8 ((address : Int) / 256), .int .u8 ((address : Int) % 256), .int .u8 (kind : Int)] :=
    own_new w #[.int .u8 (L.length : Int), .int .u8 ((address : Int) / 256), .int .u8 ((address : Int) % 256), .int .u8 (kind : Int)] 4 rfl (by unfold maxLen; omega)
  have hcl' : Hid (∀ W : World, Below w.heap.size w W → ∀ j u, (v8 L)[j]? = some u → W.cell? ((⟨d, o, none⟩ : Addr).add j) = some u) := fun W hW j u hu => by
    have hj : j < L.length := by have := (List.getElem?_eq_some_iff.1 hu).1; rwa [v8_len] at this
    rw [Go.WideShapes.add_plain, hW.cell (p := ⟨d, o + j, none⟩) hd, hcl j hj, ← v8_get L j hj]; exact hu
  clear hcl
  have hq3 : Hid (4 + L.length ≤ maxLen) := by show _ ≤ _; unfold maxLen; omega
  go_upto_region 3 with ((at_builtin; refine wpList_append_lies _ rfl _ _ 22 rfl w.heap.size 5 i5 _ 1 1 Try.underlying22 hi hz0 hz1 hz2 rfl (by decide) _ 4 _ rfl own1 ⟨d, o, none⟩ L.length dc (v8 L) rfl (by rw [v8_len]; omega) (hcl'.out _ hE1) (v8_one L) hp hq3.out (by omega) (by simp) (w.heap.size + 1) (by simp) ?_; intro ab ac w2 own2 hgr2 hat2 hlt2))
  have hE2 : Below w.heap.size w w2 := hE1.grown hgr2 (by simp) (fun q hq => (own1.lt q hq).1)
  clear hE1 hgr2 hcl' 
  rw [← hhd.out, ← v8_app] at own2
  have hAs : Hid (w2.ownsRow w.heap.size 5 1 (.slice (some ⟨ab, 0, none⟩) (4 + L.length) ac) (4 + L.length) (v8 (hd4 kind address L ++ L))) := own2
  have hab : ab < w2.heap.size ∧ w.heap.size ≤ ab := ⟨(hAs.out.lt ab rfl).2, (hAs.out.lt ab rfl).1⟩
  clear own1 own2
  generalize hd4 kind address L ++ L = A at *
  have hcA : Hid (∀ i, i < (4 + L.length) → w2.cell? ⟨ab, i, none⟩ = some (.int .u8 ((A.getD i 0 : Nat) : Int))) := by
    obtain ⟨a, c, e, hb⟩ := own_Bs hAs.out hAl.out.symm hA.out
    injection e with e1 _ _
    subst e1
    obtain ⟨b, o, e2, _, h⟩ := hb.cell (by have := hAl.out; omega)
    have e3 := Option.some.inj e2
    cases e3
    intro i hi
    have := h i (by have := hAl.out; omega)
    rwa [Nat.zero_add] at this
  have hv2 : w2.ownsRow B 5 1 v X.length (v8 X) := own_only hown'.out (Only.of_below (S := fun _ => False) hE2) (fun _ _ h => h)
  have hvb : ∀ g, v.ownBlock = some g → g < w.heap.size := fun g hg => (hown'.out.lt g hg).2
  have hs2 := hE2.size
  go_upto_region 5 with ((at_builtin; refine wpList_append_lies _ rfl _ _ 22 rfl B 5 i5 _ 1 1 Try.underlying22 hi hz0 hz1 hz2 rfl (by decide) v X.length (v8 X) rfl (hv2.alloc _) ⟨w2.heap.size, 0, none⟩ 1 1 [.int .u8 58] rfl rfl (fun j u hj => by rw [Go.WideShapes.add_plain, Nat.zero_add, (Has.new w2 #[.int .u8 58] 5 rfl).2.1 j]; simpa using hj) (fun u hu => by simp at hu; rw [hu]; rfl) (by decide) hq1.out hq2.out (by simp; omega) (w2.heap.size + 1) (by simp) ?_; intro g3 k3 w3 own3 hgr3 hat3 hlt3))
  have hE3 : Below B w w3 := ((hE2.mono hB).alloc (Nat.le_trans hB hs2) (.cells #[.int .u8 58] 5)).grown hgr3 (by simp; omega) (fun q hq => (hv2.lt q hq).1)
  have hne : v.ownBlock ≠ some ab := fun e => by have := hvb ab e; omega
  have hK3 : w3.heap[ab]? = w2.heap[ab]? ∧ (Value.slice (some ⟨g3, 0, none⟩) (X.length + 1) k3).ownBlock ≠ some ab ∧ ab < w3.heap.size := by
    refine ⟨(hgr3.block ab (by simp; omega) (fun e => hne e.symm)).trans (Below.heap_alloc _ _ _ hab.1), fun e => ?_, ?_⟩
    · have e2 : g3 = ab := Option.some.inj e
      rcases hat3 with h | h
      · exact hne (by rw [← e2]; exact h)
      · have := hab.1; omega
    · have := hgr3.size; simp at this; omega
  have own3' : w3.ownsRow B 5 1 (.slice (some ⟨g3, 0, none⟩) (X.length + 1) k3) (X ++ [58] ++ hx (A.take 0)).length (v8 (X ++ [58] ++ hx (A.take 0))) := by
    have e : X ++ [58] ++ hx (A.take 0) = X ++ [58] := by simp [hx]
    rw [e, v8_app, List.length_append]; exact own3
  have hXh : Hid (∀ k, k ≤ (4 + L.length) → (X ++ [58] ++ hx (A.take k)).length = X.length + 1 + 2 * k) := by
    intro k hk2
    rw [List.length_append, List.length_append, hx_len, List.length_take, hAl.out]; simp only [List.length_cons, List.length_nil]; omega
  have hA2 : Hid (∀ k, A.getD k 0 < 256) := getD_lt hA.out
  have hAt : Hid (∀ k, k < (4 + L.length) → hx (A.take (k + 1)) = hx (A.take k) ++ h2 (A.getD k 0) ∧ (A.take (k + 1)).sum = (A.take k).sum + A.getD k 0) := fun k hk2 => ⟨hx_take A k (by rw [hAl.out]; exact hk2), sum_take A k (by rw [hAl.out]; exact hk2)⟩
  clear hgr3 hat3 hlt3 own3 hv2 hvb hne hAs hhd hE2 hq1 hq2
  go_wp2
  go_loopg [0, 10, 11] (4 + L.length) (fun gk u sm i wr => ∃ (k S : Nat), k + gk = (4 + L.length) ∧ i = .int .i64 (k : Int) ∧ sm = .int .i64 (S : Int) ∧ Hid (S = (A.take k).sum) ∧ S ≤ 256 * k ∧ Hid (wr.ownsRow B 5 1 u (X ++ [58] ++ hx (A.take k)).length (v8 (X ++ [58] ++ hx (A.take k)))) ∧ Hid (Below B w wr) ∧ Hid (wr.heap[ab]? = w2.heap[ab]? ∧ u.ownBlock ≠ some ab ∧ ab < wr.heap.size))
  case atStart => exact ⟨0, 0, by omega, rfl, rfl, rfl, by omega, own3', hE3, hK3⟩
  case round =>
    clear hE3 hK3 own3'
    obtain ⟨k, S, hk0, rfl, rfl, hS, hSb, hO, hBe, hKe⟩ := hrel
    by_cases hlt : k < (4 + L.length)
    · have hk1 : (k : Int) < (((4 + L.length) : Nat) : Int) := by omega
      have hk2 : (0 : Int) ≤ (k : Int) := by omega
      have hc : wr.cell? ⟨ab, k, none⟩ = some (.int .u8 ((A.getD k 0 : Nat) : Int)) := (World.cell?_of_block hKe.out.1).trans (hcA.out k hlt)
      have hx8 := hA2.out k
      obtain ⟨hn1, hn2⟩ := hAt.out k hlt
      have hl8 := hXh.out k (by omega)
      have hS' : Hid (S + A.getD k 0 = (A.take (k + 1)).sum) := by show _ = _; rw [hn2, ← hS.out]
      have hn1' : Hid (X ++ [58] ++ hx (A.take (k + 1)) = X ++ [58] ++ hx (A.take k) ++ h2 (A.getD k 0)) := by show _ = _; rw [hn1, List.append_assoc]; simp
      clear hn1 hn2 hS hAt hA2 hXh hcA
      generalize X ++ [58] ++ hx (A.take k) = Y at *
      generalize A.getD k 0 = x at *
      have hO2 := hO.out
      have hws := hBe.out.size
      have hcall := hexByte_any B Y u0 x wr hx8 hO2 (Nat.le_trans hB hws) (by omega)
      clear hO
      go_wp2_with (go_at_call 22; (with_reducible refine Calls.mono hcall ?_); rintro e wn ⟨vn, rfl, hOn, hBn, hRn⟩)
      go_roundg ((4 + L.length) - (k + 1))
      case measure => go_light; omega
      case rel => exact ⟨k + 1, S + x, by omega, by go_num, by go_num, hS'.out, by omega, by rw [hn1'.out]; exact hOn, hBe.out.trans hBn, ⟨(hRn ab hKe.out.2.2 hKe.out.2.1).1.trans hKe.out.1, (hRn ab hKe.out.2.2 hKe.out.2.1).2, Nat.lt_of_lt_of_le hKe.out.2.2 hBn.size⟩⟩
    · obtain rfl : k = (4 + L.length) := by omega
      have hk1 : ¬ (((4 + L.length) : Nat) : Int) < (((4 + L.length) : Nat) : Int) := by omega
      have eA : A.take (4 + L.length) = A := List.take_of_length_le (by rw [hAl.out]; exact Nat.le_refl _)
      have hl8 := hXh.out (4 + L.length) (Nat.le_refl _)
      have hS2 := hS.out
      rw [eA] at hS2 hO hl8
      have hck : ((chk A : Nat) : Int) = -((S : Int) % 256) % 256 := by unfold chk; rw [← hS2]; omega
      clear hS2
      have hc8 := chk_lt A
      have hws := hBe.out.size
      have hcall := hexByte_any B (X ++ [58] ++ hx A) u0 (chk A) wr hc8 hO.out (Nat.le_trans hB hws) (by omega)
      have hl9 : (X ++ [58] ++ hx A ++ h2 (chk A)).length = X.length + 1 + 2 * (4 + L.length) + 2 := by rw [List.length_append, hl8]; rfl
      rw [hck] at hcall
      generalize X ++ [58] ++ hx A ++ h2 (chk A) = Z at *
      have hq5 : Hid (Z.length + 1 ≤ maxLen) := by show _ ≤ _; unfold maxLen; omega
      have hq6 : Hid ((Z.length + 1) * 1 ≤ 140737488355328) := by show _ ≤ _; omega
      have hl9' : Hid (Z.length = X.length + 1 + 2 * (4 + L.length) + 2) := hl9
      clear hO hS hXh hcA hA2 hAt eA hck hl9 hl8
      go_upto_region 11 with (go_at_call 22; (with_reducible refine Calls.mono hcall ?_); rintro e wn ⟨vn, rfl, hOn, hBn, hRn⟩)
      have hBw := hBe.out.trans hBn
      have hsn := hBw.size
      go_wp2_with ((at_builtin; refine wpList_append_lies _ rfl _ _ 22 rfl B 5 i5 _ 1 1 Try.underlying22 hi hz0 hz1 hz2 rfl (by decide) vn Z.length (v8 Z) rfl (hOn.alloc _) ⟨wn.heap.size, 0, none⟩ 1 1 [.int .u8 10] rfl rfl (fun j u hj => by rw [Go.WideShapes.add_plain, Nat.zero_add, (Has.new wn #[.int .u8 10] 5 rfl).2.1 j]; simpa using hj) (fun u hu => by simp at hu; rw [hu]; rfl) (by decide) hq5.out hq6.out (by simp; omega) (wn.heap.size + 1) (by simp) ?_; intro g4 k4 w4 own4 hgr4 hat4 hlt4))
      go_ret
      refine ⟨_, rfl, ?_, (hBw.alloc (Nat.le_trans hB hsn) (.cells #[.int .u8 10] 5)).grown hgr4 (by simp; omega) (fun q hq => (hOn.lt q hq).1)⟩
      rw [hT.out, v8_app, List.length_append]; exact own4

set_option maxRecDepth 100000 in
set_option maxHeartbeats 4000000 in
theorem record_nil (B : Nat) (X : List Nat) (v : Value) (kind address : Nat) (w : World) (hown : w.ownsRow B 5 1 v X.length (v8 X)) (hB : B ≤ w.heap.size) (hk : kind < 256) (ha : address < 65536) (hlen : X.length + 600 ≤ 140737488355328) :
    Calls Try.prog 14 #[v, .int .i64 (kind : Int), .int .i64 (address : Int), .slice none 0 0] w fun e w' => ∃ v', e = .returned v' ∧ w'.ownsRow B 5 1 v' (X ++ recT kind address ([] : List Nat)).length (v8 (X ++ recT kind address ([] : List Nat))) ∧ Below B w w' := by
  obtain ⟨i5, hi, hz0, hz1, hz2⟩ := info_parts info5
  have hT : Hid (X ++ recT kind address ([] : List Nat) = X ++ [58] ++ hx (hd4 kind address ([] : List Nat) ++ ([] : List Nat)) ++ h2 (chk (hd4 kind address ([] : List Nat) ++ ([] : List Nat))) ++ [10]) := by
    show _ = _
    rw [hx_app]
    simp [recT, hx]
  have hA : Hid (∀ x ∈ hd4 kind address ([] : List Nat) ++ ([] : List Nat), x < 256) := by
    intro x hx
    rcases List.mem_append.1 hx with h | h
    · exact hd4_lt hk x h
    · exact absurd h (by simp)
  have hAl : Hid ((hd4 kind address ([] : List Nat) ++ ([] : List Nat)).length = 4 + ([] : List Nat).length) := by show _ = _; rw [List.length_append]; rfl
  have hhd : Hid (v8 (hd4 kind address ([] : List Nat)) = [.int .u8 0, .int .u8 ((address : Int) / 256), .int .u8 ((address : Int) % 256), .int .u8 (kind : Int)]) := by
    show _ = _
    have g1 : ((([] : List Nat).length % 256 : Nat) : Int) = 0 := by rfl
    have g2 : ((address / 256 % 256 : Nat) : Int) = (address : Int) / 256 := by omega
    have g3 : ((address % 256 : Nat) : Int) = (address : Int) % 256 := by omega
    rw [← g1, ← g2, ← g3]; rfl
  have hq1 : Hid (X.length + 1 ≤ maxLen) := by show _ ≤ _; unfold maxLen; omega
  have hq2 : Hid ((X.length + 1) * 1 ≤ 140737488355328) := by show _ ≤ _; omega
  have hown' : Hid (w.ownsRow B 5 1 v X.length (v8 X)) := hown
  clear hown
  go_enter Try.func14, Try.ntmps14
  have hE1 : Below w.heap.size w (w.alloc (.cells #[.int .u8 0, .int .u8 ((address : Int) / 256), .int .u8 ((address : Int) % 256), .int .u8 (kind : Int)] 5)) := (Below.refl _ _).alloc (Nat.le_refl _) _
  have own1 : (w.alloc (.cells #[.int .u8 0, .int .u8 ((address : Int) / 256), .int .u8 ((address : Int) % 256), .int .u8 (kind : Int)] 5)).ownsRow w.heap.size 5 1 (.slice (some ⟨w.heap.size, 0, none⟩) 4 4) 4 [.int .u8 0, .int .u8 ((address : Int) / 256), .int .u8 ((address : Int) % 256), .int .u8 (kind : Int)] :=
    own_new w #[.int .u8 0, .int .u8 ((address : Int) / 256), .int .u8 ((address : Int) % 256), .int .u8 (kind : Int)] 4 rfl (by unfold maxLen; omega)
  go_upto_region 3 with ((at_builtin; refine wpList_append_own_none rfl _ _ 22 rfl w.heap.size 5 i5 1 Try.underlying22 hi _ 4 _ rfl own1 rfl ?_))
  have hE2 := hE1
  have own2 := own1
  clear hE1 own1
  generalize w.alloc (.cells #[.int .u8 0, .int .u8 ((address : Int) / 256), .int .u8 ((address : Int) % 256), .int .u8 (kind : Int)] 5) = w2 at *
  have own1 : True := trivial
  rw [← hhd.out] at own2
  have hAs : Hid (w2.ownsRow w.heap.size 5 1 (.slice (some ⟨w.heap.size, 0, none⟩) 4 4) 4 (v8 (hd4 kind address ([] : List Nat) ++ ([] : List Nat)))) := by rw [List.append_nil]; exact own2
  have hab : w.heap.size < w2.heap.size ∧ w.heap.size ≤ w.heap.size := ⟨(hAs.out.lt (w.heap.size) rfl).2, (hAs.out.lt (w.heap.size) rfl).1⟩
  clear own1 own2
  generalize hd4 kind address ([] : List Nat) ++ ([] : List Nat) = A at *
  have hcA : Hid (∀ i, i < 4 → w2.cell? ⟨w.heap.size, i, none⟩ = some (.int .u8 ((A.getD i 0 : Nat) : Int))) := by
    obtain ⟨a, c, e, hb⟩ := own_Bs hAs.out (by rw [hAl.out]; rfl) hA.out
    injection e with e1 _ _
    subst e1
    obtain ⟨b, o, e2, _, h⟩ := hb.cell (by have := hAl.out; omega)
    have e3 := Option.some.inj e2
    cases e3
    intro i hi
    have := h i (by have := hAl.out; omega)
    rwa [Nat.zero_add] at this
  have hv2 : w2.ownsRow B 5 1 v X.length (v8 X) := own_only hown'.out (Only.of_below (S := fun _ => False) hE2) (fun _ _ h => h)
  have hvb : ∀ g, v.ownBlock = some g → g < w.heap.size := fun g hg => (hown'.out.lt g hg).2
  have hs2 := hE2.size
  go_upto_region 5 with ((at_builtin; refine wpList_append_lies _ rfl _ _ 22 rfl B 5 i5 _ 1 1 Try.underlying22 hi hz0 hz1 hz2 rfl (by decide) v X.length (v8 X) rfl (hv2.alloc _) ⟨w2.heap.size, 0, none⟩ 1 1 [.int .u8 58] rfl rfl (fun j u hj => by rw [Go.WideShapes.add_plain, Nat.zero_add, (Has.new w2 #[.int .u8 58] 5 rfl).2.1 j]; simpa using hj) (fun u hu => by simp at hu; rw [hu]; rfl) (by decide) hq1.out hq2.out (by simp; omega) (w2.heap.size + 1) (by simp) ?_; intro g3 k3 w3 own3 hgr3 hat3 hlt3))
  have hE3 : Below B w w3 := ((hE2.mono hB).alloc (Nat.le_trans hB hs2) (.cells #[.int .u8 58] 5)).grown hgr3 (by simp; omega) (fun q hq => (hv2.lt q hq).1)
  have hne : v.ownBlock ≠ some (w.heap.size) := fun e => by have := hvb (w.heap.size) e; omega
  have hK3 : w3.heap[w.heap.size]? = w2.heap[w.heap.size]? ∧ (Value.slice (some ⟨g3, 0, none⟩) (X.length + 1) k3).ownBlock ≠ some (w.heap.size) ∧ w.heap.size < w3.heap.size := by
    refine ⟨(hgr3.block (w.heap.size) (by simp; omega) (fun e => hne e.symm)).trans (Below.heap_alloc _ _ _ hab.1), fun e => ?_, ?_⟩
    · have e2 : g3 = w.heap.size := Option.some.inj e
      rcases hat3 with h | h
      · exact hne (by rw [← e2]; exact h)
      · have := hab.1; omega
    · have := hgr3.size; simp at this; omega
  have own3' : w3.ownsRow B 5 1 (.slice (some ⟨g3, 0, none⟩) (X.length + 1) k3) (X ++ [58] ++ hx (A.take 0)).length (v8 (X ++ [58] ++ hx (A.take 0))) := by
    have e : X ++ [58] ++ hx (A.take 0) = X ++ [58] := by simp [hx]
    rw [e, v8_app, List.length_append]; exact own3
  have hXh : Hid (∀ k, k ≤ 4 → (X ++ [58] ++ hx (A.take k)).length = X.length + 1 + 2 * k) := by
    intro k hk2
    rw [List.length_append, List.length_append, hx_len, List.length_take, hAl.out]; simp only [List.length_cons, List.length_nil]; omega
  have hA2 : Hid (∀ k, A.getD k 0 < 256) := getD_lt hA.out
  have hAt : Hid (∀ k, k < 4 → hx (A.take (k + 1)) = hx (A.take k) ++ h2 (A.getD k 0) ∧ (A.take (k + 1)).sum = (A.take k).sum + A.getD k 0) := fun k hk2 => ⟨hx_take A k (by rw [hAl.out]; exact hk2), sum_take A k (by rw [hAl.out]; exact hk2)⟩
  clear hgr3 hat3 hlt3 own3 hv2 hvb hne hAs hhd hE2 hq1 hq2
  go_wp2
  go_loopg [0, 10, 11] 4 (fun gk u sm i wr => ∃ (k S : Nat), k + gk = 4 ∧ i = .int .i64 (k : Int) ∧ sm = .int .i64 (S : Int) ∧ Hid (S = (A.take k).sum) ∧ S ≤ 256 * k ∧ Hid (wr.ownsRow B 5 1 u (X ++ [58] ++ hx (A.take k)).length (v8 (X ++ [58] ++ hx (A.take k)))) ∧ Hid (Below B w wr) ∧ Hid (wr.heap[w.heap.size]? = w2.heap[w.heap.size]? ∧ u.ownBlock ≠ some (w.heap.size) ∧ w.heap.size < wr.heap.size))
  case atStart => exact ⟨0, 0, by omega, rfl, rfl, rfl, by omega, own3', hE3, hK3⟩
  case round =>
    clear hE3 hK3 own3'
    obtain ⟨k, S, hk0, rfl, rfl, hS, hSb, hO, hBe, hKe⟩ := hrel
    by_cases hlt : k < 4
    · have hk1 : (k : Int) < ((4 : Nat) : Int) := by omega
      have hk2 : (0 : Int) ≤ (k : Int) := by omega
      have hc : wr.cell? ⟨w.heap.size, k, none⟩ = some (.int .u8 ((A.getD k 0 : Nat) : Int)) := (World.cell?_of_block hKe.out.1).trans (hcA.out k hlt)
      have hx8 := hA2.out k
      obtain ⟨hn1, hn2⟩ := hAt.out k hlt
      have hl8 := hXh.out k (by omega)
      have hS' : Hid (S + A.getD k 0 = (A.take (k + 1)).sum) := by show _ = _; rw [hn2, ← hS.out]
      have hn1' : Hid (X ++ [58] ++ hx (A.take (k + 1)) = X ++ [58] ++ hx (A.take k) ++ h2 (A.getD k 0)) := by show _ = _; rw [hn1, List.append_assoc]; simp
      clear hn1 hn2 hS hAt hA2 hXh hcA
      generalize X ++ [58] ++ hx (A.take k) = Y at *
      generalize A.getD k 0 = x at *
      have hO2 := hO.out
      have hws := hBe.out.size
      have hcall := hexByte_any B Y u0 x wr hx8 hO2 (Nat.le_trans hB hws) (by omega)
      clear hO
      go_wp2_with (go_at_call 22; (with_reducible refine Calls.mono hcall ?_); rintro e wn ⟨vn, rfl, hOn, hBn, hRn⟩)
      go_roundg (4 - (k + 1))
      case measure => go_light; omega
      case rel => exact ⟨k + 1, S + x, by omega, by go_num, by go_num, hS'.out, by omega, by rw [hn1'.out]; exact hOn, hBe.out.trans hBn, ⟨(hRn (w.heap.size) hKe.out.2.2 hKe.out.2.1).1.trans hKe.out.1, (hRn (w.heap.size) hKe.out.2.2 hKe.out.2.1).2, Nat.lt_of_lt_of_le hKe.out.2.2 hBn.size⟩⟩
    · obtain rfl : k = 4 := by omega
      have hk1 : ¬ ((4 : Nat) : Int) < ((4 : Nat) : Int) := by omega
      have eA : A.take 4 = A := List.take_of_length_le (by rw [hAl.out]; exact Nat.le_refl _)
      have hl8 := hXh.out 4 (Nat.le_refl _)
      have hS2 := hS.out
      rw [eA] at hS2 hO hl8
      have hck : ((chk A : Nat) : Int) = -((S : Int) % 256) % 256 := by unfold chk; rw [← hS2]; omega
      clear hS2
      have hc8 := chk_lt A
      have hws := hBe.out.size
      have hcall := hexByte_any B (X ++ [58] ++ hx A) u0 (chk A) wr hc8 hO.out (Nat.le_trans hB hws) (by omega)
      have hl9 : (X ++ [58] ++ hx A ++ h2 (chk A)).length = X.length + 1 + 2 * 4 + 2 := by rw [List.length_append, hl8]; rfl
      rw [hck] at hcall
      generalize X ++ [58] ++ hx A ++ h2 (chk A) = Z at *
      have hq5 : Hid (Z.length + 1 ≤ maxLen) := by show _ ≤ _; unfold maxLen; omega
      have hq6 : Hid ((Z.length + 1) * 1 ≤ 140737488355328) := by show _ ≤ _; omega
      have hl9' : Hid (Z.length = X.length + 1 + 2 * 4 + 2) := hl9
      clear hO hS hXh hcA hA2 hAt eA hck hl9 hl8
      go_upto_region 11 with (go_at_call 22; (with_reducible refine Calls.mono hcall ?_); rintro e wn ⟨vn, rfl, hOn, hBn, hRn⟩)
      have hBw := hBe.out.trans hBn
      have hsn := hBw.size
      go_wp2_with ((at_builtin; refine wpList_append_lies _ rfl _ _ 22 rfl B 5 i5 _ 1 1 Try.underlying22 hi hz0 hz1 hz2 rfl (by decide) vn Z.length (v8 Z) rfl (hOn.alloc _) ⟨wn.heap.size, 0, none⟩ 1 1 [.int .u8 10] rfl rfl (fun j u hj => by rw [Go.WideShapes.add_plain, Nat.zero_add, (Has.new wn #[.int .u8 10] 5 rfl).2.1 j]; simpa using hj) (fun u hu => by simp at hu; rw [hu]; rfl) (by decide) hq5.out hq6.out (by simp; omega) (wn.heap.size + 1) (by simp) ?_; intro g4 k4 w4 own4 hgr4 hat4 hlt4))
      go_ret
      refine ⟨_, rfl, ?_, (hBw.alloc (Nat.le_trans hB hsn) (.cells #[.int .u8 10] 5)).grown hgr4 (by simp; omega) (fun q hq => (hOn.lt q hq).1)⟩
      rw [hT.out, v8_app, List.length_append]; exact own4
end Go.Proofs.Ytbgfeogigjjmdaa
