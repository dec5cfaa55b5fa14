import Derived.Test.YtjfieclmagbfbaaGreatDoorJCkM
import Derived.OrdersHeld
import Derived.Sort.Grow
import Derived.Deep.LoopGhost
import Derived.Shelf.SlGeneric
import Derived.Shelf.SlSortCmp.WholeK
import Derived.Shelf.SlSortCmp.NoneTotal
import Derived.Shelf.SlicesG.Cmp
import Derived.Test.YtjfieclmagbfbaaGreatDoorProg
set_option linter.unusedSimpArgs false
set_option linter.unusedVariables false
set_option maxRecDepth 100000
set_option maxHeartbeats 8000000
namespace Go.Proofs.YtjfieclmagbfbaaGreatDoor
open Go.RowKit
theorem orN_any (L : List Int) (b : Nat) (w : World) (hL : L.length ≤ 4) (h : ∀ i (hi : i < L.length), w.cell? ⟨b, i, none⟩ = some (.int .i64 L[i])) :
  Calls Tryz.prog 101 #[.slice (some ⟨b, 0, none⟩) L.length L.length] w fun e w' => e = .returned (.int .i64 (orL L)) ∧ w' = w := by
 generalize hA : orL L = A
 have hA' : Hid (orL L = A) := hA
 clear hA
 obtain ⟨n, hn⟩ : ∃ n, L.length = n := ⟨_, rfl⟩
 rw [hn]
 have hn' : Hid (L.length = n) := hn
 have hL4 : n ≤ 4 := by omega
 clear hn hL
 go_enter Tryz.func101, Tryz.ntmps101
 go_wp2
 go_loopg [8] n (fun gk t wr => ∃ k : Nat, k + gk = n ∧ t = .int .i64 (k : Int) ∧ wr = w ∧ Hid (orL (L.drop k) = A))
 case atStart => exact ⟨0, by omega, rfl, rfl, by have := hA'.out; show _ = _; simpa using this⟩
 case round =>
  obtain ⟨k, hk, rfl, rfl, hx⟩ := hrel
  cases gk with
  | zero =>
    have e : (0 : Int) = A := by have := hx.out; rw [List.drop_eq_nil_of_le (by have := hn'.out; omega)] at this; exact this
    obtain rfl : k = n := by omega
    go_wp2; go_ret; exact ⟨ret_int e, rfl⟩
  | succ g =>
    have hkn : k < n := by omega
    have hkl : k < L.length := by have := hn'.out; omega
    have hc := h k hkl; have hd : L.drop k = L[k] :: L.drop (k + 1) := List.drop_eq_getElem_cons hkl; generalize hv : L[k] = v at hc hd
    by_cases e : v = 0
    ·subst e
     have hx' : Hid (orL (L.drop (k + 1)) = A) := by have := hx.out; rw [hd, orL_skip rfl] at this; exact this
     clear hd hv h; go_wp2
     go_roundg g
     case measure => omega
     case rel => exact ⟨k + 1, by omega, by push_cast; rfl, rfl, hx'⟩
    ·have e' : (v != 0) = true := by simpa using e
     have hx' : v = A := by have := hx.out; rw [hd, orL_take e] at this; exact this
     clear hd hv h; go_wp2; go_ret; exact ⟨by first | rfl | exact ret_int hx', rfl⟩
theorem byConflict_any (kC : ∀ (x y : Int) (W : World), Calls Tryz.prog 102 #[.int .i64 x, .int .i64 y] W fun e w' => e = .returned (.int .i64 (Go.Lib.compareInt x y)) ∧ w' = W) (p0 p1 q0 q1 : Int) (w : World) :
  Calls Tryz.prog 91 #[.agg #[.int .i64 p0, .int .i64 p1], .agg #[.int .i64 q0, .int .i64 q1]] w fun e w' => e = .returned (.int .i64 (bcF (p0, p1) (q0, q1))) ∧ ∃ q os', w' = Go.Sort.grow (w.drewN q) os' := by
 have K1 : Has ((w.alloc (.cells #[.int .i64 p0, .int .i64 p1] 132)).alloc (.cells #[.int .i64 q0, .int .i64 q1] 132)) w.heap.size #[.int .i64 p0, .int .i64 p1] := (Has.new _ _ _ rfl).alloc _
 have K2 : Has ((w.alloc (.cells #[.int .i64 p0, .int .i64 p1] 132)).alloc (.cells #[.int .i64 q0, .int .i64 q1] 132)) (w.heap.size + 1) #[.int .i64 q0, .int .i64 q1] := Has.new _ _ _ (by simp)
 unfold bcF
 go_enter Tryz.func91, Tryz.ntmps91
 go_wp2_with fail
 refine wp_region_noPanic ?_
 refine wp_region_held_drew (S := fun w' => w'.cell? ⟨w.heap.size, 0, none⟩ = some (.int .i64 p0) ∧ w'.cell? ⟨w.heap.size, 1, none⟩ = some (.int .i64 p1) ∧ w'.cell? ⟨w.heap.size + 1, 0, none⟩ = some (.int .i64 q0) ∧ w'.cell? ⟨w.heap.size + 1, 1, none⟩ = some (.int .i64 q1)) (by kernel_rfl) ?_ (fun hHeld => ?_)
 ·(try dsimp only)
  exact ⟨K1.2.1 0, K1.2.1 1, K2.2.1 0, K2.2.1 1⟩
 refine tkY 0 ?_
 refine tkY 1 ?_
 refine tkY 2 ?_
 refine tkY 3 ?_
 refine tkY 4 ?_
 refine tkY 5 ?_
 refine tkY 6 ?_
 refine tkY 7 ?_
 refine tkY 8 ?_
 refine tkY 9 ?_
 refine tkY 11 ?_
 refine tkY 12 ?_
 refine tkY 13 ?_
 refine tkY 14 ?_
 refine tkY 15 ?_
 refine tkY 16 ?_
 refine tkY 17 ?_
 refine tkY 18 ?_
 refine tkY 19 ?_
 refine tkY 20 ?_
 refine tkY 22 ?_
 refine tkY 23 ?_
 refine tkY 24 ?_
 refine tkY 25 ?_
 refine wpAnyH_ready (rs := [10]) (by kernel_rfl) (by simp) ?_
 refine AllReadyH.cons (o := ⟨some 15, .call { callee := Callee.value (.func 102), args := #[.tmp 9, .tmp 14], argTypes := #[3, 3] }, 3, "street.go:69", #[⟨4, .data⟩, ⟨9, .data⟩], none⟩) rfl (fun K hK => ?_) AllReadyH.nil
 go_simp
 go_at_call 102
 (with_reducible refine Calls.mono (kC (min p0 p1) (min q0 q1) _) ?_)
 rintro e x1 ⟨rfl, rfl⟩
 go_wp2_with fail
 refine hK.out _ _ ?_ (fun hHeld => ?_)
 ·(try dsimp only)
  exact hHeld
 clear hK K
 (try simp only [Act.put, List.setIfInBounds_toArray, List.set_cons_zero, List.set_cons_succ])
 refine wpAnyH_ready (rs := [21]) (by kernel_rfl) (by simp) ?_
 refine AllReadyH.cons (o := ⟨some 26, .call { callee := Callee.value (.func 102), args := #[.tmp 20, .tmp 25], argTypes := #[3, 3] }, 3, "street.go:69", #[⟨15, .data⟩, ⟨20, .data⟩, ⟨10, .chain⟩], none⟩) rfl (fun K hK => ?_) AllReadyH.nil
 go_simp
 go_at_call 102
 (with_reducible refine Calls.mono (kC (max p0 p1) (max q0 q1) _) ?_)
 rintro e x2 ⟨rfl, rfl⟩
 go_wp2_with fail
 refine hK.out _ _ ?_ (fun hHeld => ?_)
 ·(try dsimp only)
  exact hHeld
 clear hK K
 (try simp only [Act.put, List.setIfInBounds_toArray, List.set_cons_zero, List.set_cons_succ])
 refine wpAnyH_ready (rs := [26]) (by kernel_rfl) (by simp) ?_
 refine AllReadyH.cons (o := ⟨some 31, .call { callee := Callee.value (.func 102), args := #[.tmp 28, .tmp 30], argTypes := #[3, 3] }, 3, "street.go:69", #[⟨23, .data⟩, ⟨25, .data⟩, ⟨21, .chain⟩], none⟩) rfl (fun K hK => ?_) AllReadyH.nil
 go_simp
 go_at_call 102
 (with_reducible refine Calls.mono (kC p0 q0 _) ?_)
 rintro e x3 ⟨rfl, rfl⟩
 go_wp2_with fail
 refine hK.out _ _ ?_ (fun hHeld => ?_)
 ·(try dsimp only)
  exact hHeld
 clear hK K
 (try simp only [Act.put, List.setIfInBounds_toArray, List.set_cons_zero, List.set_cons_succ])
 refine wpAnyH_ready (rs := [27]) (by kernel_rfl) (by simp) ?_
 refine AllReadyH.cons (o := ⟨some 32, .buildSlice 80 3 #[(0, .tmp 15), (1, .tmp 26), (2, .tmp 31)], 80, "street.go:69", #[⟨10, .data⟩, ⟨21, .data⟩, ⟨26, .data⟩], none⟩) rfl (fun K hK => ?_) AllReadyH.nil
 go_simp
 refine hK.out _ _ ?_ (fun hHeld => ?_)
 ·(try dsimp only)
  exact ⟨(K1.alloc (.cells #[.int .i64 (Go.Lib.compareInt (min p0 p1) (min q0 q1)), .int .i64 (Go.Lib.compareInt (max p0 p1) (max q0 q1)), .int .i64 (Go.Lib.compareInt p0 q0)] 3)).drew.2.1 0, (K1.alloc (.cells #[.int .i64 (Go.Lib.compareInt (min p0 p1) (min q0 q1)), .int .i64 (Go.Lib.compareInt (max p0 p1) (max q0 q1)), .int .i64 (Go.Lib.compareInt p0 q0)] 3)).drew.2.1 1, (K2.alloc (.cells #[.int .i64 (Go.Lib.compareInt (min p0 p1) (min q0 q1)), .int .i64 (Go.Lib.compareInt (max p0 p1) (max q0 q1)), .int .i64 (Go.Lib.compareInt p0 q0)] 3)).drew.2.1 0, (K2.alloc (.cells #[.int .i64 (Go.Lib.compareInt (min p0 p1) (min q0 q1)), .int .i64 (Go.Lib.compareInt (max p0 p1) (max q0 q1)), .int .i64 (Go.Lib.compareInt p0 q0)] 3)).drew.2.1 1⟩
 clear hK K
 (try simp only [Act.put, List.setIfInBounds_toArray, List.set_cons_zero, List.set_cons_succ])
 refine wpAnyH_ready (rs := [28]) (by kernel_rfl) (by simp) ?_
 refine AllReadyH.cons (o := ⟨some 33, .call { callee := Callee.value (.func 101), args := #[.tmp 32], argTypes := #[80] }, 3, "street.go:69", #[⟨27, .data⟩, ⟨26, .chain⟩], none⟩) rfl (fun K hK => ?_) AllReadyH.nil
 go_simp
 have K3 : Has (((w.alloc (.cells #[.int .i64 p0, .int .i64 p1] 132)).alloc (.cells #[.int .i64 q0, .int .i64 q1] 132)).alloc (.cells #[.int .i64 (Go.Lib.compareInt (min p0 p1) (min q0 q1)), .int .i64 (Go.Lib.compareInt (max p0 p1) (max q0 q1)), .int .i64 (Go.Lib.compareInt p0 q0)] 3)).drew (w.heap.size + 1 + 1) #[.int .i64 (Go.Lib.compareInt (min p0 p1) (min q0 q1)), .int .i64 (Go.Lib.compareInt (max p0 p1) (max q0 q1)), .int .i64 (Go.Lib.compareInt p0 q0)] := (Has.new _ _ _ (by simp)).drew
 have kO : Calls Tryz.prog 101 #[.slice (some ⟨w.heap.size + 1 + 1, 0, none⟩) 3 3] (((w.alloc (.cells #[.int .i64 p0, .int .i64 p1] 132)).alloc (.cells #[.int .i64 q0, .int .i64 q1] 132)).alloc (.cells #[.int .i64 (Go.Lib.compareInt (min p0 p1) (min q0 q1)), .int .i64 (Go.Lib.compareInt (max p0 p1) (max q0 q1)), .int .i64 (Go.Lib.compareInt p0 q0)] 3)).drew fun e w' => e = .returned (.int .i64 (orL [(Go.Lib.compareInt (min p0 p1) (min q0 q1)), (Go.Lib.compareInt (max p0 p1) (max q0 q1)), (Go.Lib.compareInt p0 q0)])) ∧ w' = (((w.alloc (.cells #[.int .i64 p0, .int .i64 p1] 132)).alloc (.cells #[.int .i64 q0, .int .i64 q1] 132)).alloc (.cells #[.int .i64 (Go.Lib.compareInt (min p0 p1) (min q0 q1)), .int .i64 (Go.Lib.compareInt (max p0 p1) (max q0 q1)), .int .i64 (Go.Lib.compareInt p0 q0)] 3)).drew := orN_any [(Go.Lib.compareInt (min p0 p1) (min q0 q1)), (Go.Lib.compareInt (max p0 p1) (max q0 q1)), (Go.Lib.compareInt p0 q0)] _ _ (by simp) (by
   intro i hi; rcases i with _ | _ | _ | i
   ·exact K3.2.1 0
   ·exact K3.2.1 1
   ·exact K3.2.1 2
   ·simp at hi; omega)
 go_at_call 101
 (with_reducible refine Calls.mono kO ?_)
 rintro e x4 ⟨rfl, rfl⟩
 go_wp2_with fail
 refine hK.out _ _ ?_ (fun hHeld => ?_)
 ·(try dsimp only)
  exact hHeld
 clear hK K
 (try simp only [Act.put, List.setIfInBounds_toArray, List.set_cons_zero, List.set_cons_succ])
 refine tkY 29 ?_
 refine wpAnyH_done (by kernel_rfl) ?_ _
 refine NoPanic.normal ?_
 go_wp2_with fail
 go_ret
 exact ⟨rfl, 1, _, by rw [Go.Sort.alloc_eq_grow, Go.Sort.alloc_eq_grow, Go.Sort.alloc_eq_grow, Go.Sort.grow_grow, Go.Sort.grow_grow]; rfl⟩
end Go.Proofs.YtjfieclmagbfbaaGreatDoor
namespace Go.Proofs
open Go.Shelf
def Tryz.sortP_ren : Go.Shelf.Ren := ⟨fun | 6 => 90 | 15 => 110 | 14 => 109 | 28 => 140 | 29 => 141 | 20 => 132 | 21 => 133 | 22 => 134 | 23 => 135 | 24 => 136 | 25 => 137 | 26 => 138 | 27 => 139 | 46 => 152 | 47 => 153 | 48 => 154 | 49 => 155 | 50 => 156 | 57 => 160 | n => n, fun | 22 => 129 | 24 => 132 | 25 => 167 | 3 => 3 | 39 => 165 | 0 => 0 | 53 => 229 | 55 => 47 | 4 => 4 | 46 => 222 | 45 => 221 | 50 => 226 | 5 => 5 | 9 => 9 | 66 => 237 | 70 => 241 | 76 => 245 | 77 => 199 | n => n, fun | n => n⟩
theorem Tryz.sortP : Go.Proofs.SlLaysF0.n6 Tryz.prog Tryz.sortP_ren := {
 mixed := by kernel_rfl
 f6 := ⟨Tryz.f90.name, by decide, Tryz.func90.trans (congrArg some (by kernel_rfl))⟩
 f14 := ⟨Tryz.f109.name, by decide, Tryz.func109.trans (congrArg some (by kernel_rfl))⟩
 f15 := Tryz.func110.trans (congrArg some (by kernel_rfl))
 f20 := ⟨Tryz.f132.name, by decide, Tryz.func132.trans (congrArg some (by kernel_rfl))⟩
 f21 := ⟨Tryz.f133.name, by decide, Tryz.func133.trans (congrArg some (by kernel_rfl))⟩
 f22 := ⟨Tryz.f134.name, by decide, Tryz.func134.trans (congrArg some (by kernel_rfl))⟩
 f23 := ⟨Tryz.f135.name, by decide, Tryz.func135.trans (congrArg some (by kernel_rfl))⟩
 f24 := ⟨Tryz.f136.name, by decide, Tryz.func136.trans (congrArg some (by kernel_rfl))⟩
 f25 := ⟨Tryz.f137.name, by decide, Tryz.func137.trans (congrArg some (by kernel_rfl))⟩
 f26 := ⟨Tryz.f138.name, by decide, Tryz.func138.trans (congrArg some (by kernel_rfl))⟩
 f27 := ⟨Tryz.f139.name, by decide, Tryz.func139.trans (congrArg some (by kernel_rfl))⟩
 f28 := Tryz.func140.trans (congrArg some (by kernel_rfl))
 f29 := Tryz.func141.trans (congrArg some (by kernel_rfl))
 f46 := ⟨Tryz.f152.name, by decide, Tryz.func152.trans (congrArg some (by kernel_rfl))⟩
 f47 := Tryz.func153.trans (congrArg some (by kernel_rfl))
 f48 := Tryz.func154.trans (congrArg some (by kernel_rfl))
 f49 := ⟨Tryz.f155.name, by decide, Tryz.func155.trans (congrArg some (by kernel_rfl))⟩
 f50 := ⟨Tryz.f156.name, by decide, Tryz.func156.trans (congrArg some (by kernel_rfl))⟩
 f57 := ⟨Tryz.f160.name, by decide, Tryz.func160.trans (congrArg some (by kernel_rfl))⟩
 t0 := Tryz.underlying0
 a0 := Tryz.isAgg0
 z0 := Tryz.sizeOf0
 v0 := Tryz.zeroValue0
 t3 := Tryz.underlying3
 a3 := Tryz.isAgg3
 z3 := Tryz.sizeOf3
 v3 := Tryz.zeroValue3
 t4 := Tryz.underlying4
 a4 := Tryz.isAgg4
 z4 := Tryz.sizeOf4
 v4 := Tryz.zeroValue4
 t5 := Tryz.underlying5
 a5 := Tryz.isAgg5
 z5 := Tryz.sizeOf5
 v5 := Tryz.zeroValue5
 t9 := Tryz.underlying9
 a9 := Tryz.isAgg9
 z9 := Tryz.sizeOf9
 v9 := Tryz.zeroValue9
 t22 := Tryz.underlying129
 a22 := Tryz.isAgg129
 z22 := Tryz.sizeOf129
 v22 := Tryz.zeroValue129
 t25 := Tryz.underlying167
 a25 := Tryz.isAgg167
 z25 := Tryz.sizeOf167
 v25 := Tryz.zeroValue167
 t39 := Tryz.underlying165
 a39 := Tryz.isAgg165
 z39 := Tryz.sizeOf165
 v39 := Tryz.zeroValue165
 t45 := Tryz.underlying221
 a45 := Tryz.isAgg221
 z45 := Tryz.sizeOf221
 v45 := Tryz.zeroValue221
 t46 := Tryz.underlying222
 a46 := Tryz.isAgg222
 z46 := Tryz.sizeOf222
 v46 := Tryz.zeroValue222
 t50 := Tryz.underlying226
 a50 := Tryz.isAgg226
 z50 := Tryz.sizeOf226
 v50 := Tryz.zeroValue226
 t53 := Tryz.underlying229
 a53 := Tryz.isAgg229
 z53 := Tryz.sizeOf229
 v53 := Tryz.zeroValue229
 t55 := Tryz.underlying47
 a55 := Tryz.isAgg47
 z55 := Tryz.sizeOf47
 v55 := Tryz.zeroValue47
 t66 := Tryz.underlying237
 a66 := Tryz.isAgg237
 z66 := Tryz.sizeOf237
 v66 := Tryz.zeroValue237
 t70 := Tryz.underlying241
 a70 := Tryz.isAgg241
 z70 := Tryz.sizeOf241
 v70 := Tryz.zeroValue241
 t76 := Tryz.underlying245
 a76 := Tryz.isAgg245
 z76 := Tryz.sizeOf245
 v76 := Tryz.zeroValue245
 t77 := Tryz.underlying199
 a77 := Tryz.isAgg199
 z77 := Tryz.sizeOf199
 v77 := Tryz.zeroValue199 }
def Tryz.cmpInt_ren : Go.Shelf.Ren := ⟨fun | 5 => 102 | 7 => 123 | n => n, fun | 22 => 3 | 3 => 3 | 4 => 4 | n => n, fun | n => n⟩
theorem Tryz.cmpInt : Go.Proofs.SlLaysC2.n5 Tryz.prog Tryz.cmpInt_ren := {
 mixed := by kernel_rfl
 f5 := ⟨Tryz.f102.name, by decide, Tryz.func102.trans (congrArg some (by kernel_rfl))⟩
 f7 := ⟨Tryz.f123.name, by decide, Tryz.func123.trans (congrArg some (by kernel_rfl))⟩
 t3 := Tryz.underlying3
 a3 := Tryz.isAgg3
 z3 := Tryz.sizeOf3
 v3 := Tryz.zeroValue3
 t4 := Tryz.underlying4
 a4 := Tryz.isAgg4
 z4 := Tryz.sizeOf4
 v4 := Tryz.zeroValue4
 t22 := Tryz.underlying3
 a22 := Tryz.isAgg3
 z22 := Tryz.sizeOf3
 v22 := Tryz.zeroValue3 }
end Go.Proofs
