import Derived.Test.YtjfieclmagbfbaaGreatDoorTlC
set_option linter.unusedVariables false
set_option linter.unusedSimpArgs false
namespace Go.Proofs.YtjfieclmagbfbaaGreatDoor
open Go.RowKit
/-- The conflicts of n groups. -/
def tri : Nat → Nat
  | 0 => 0
  | i + 1 => tri i + i
theorem tri_le : ∀ i, i ≤ 26 → tri i ≤ 26 * i
  | 0, _ => by simp [tri]
  | i + 1, h => by have := tri_le i (by omega); unfold tri; omega
theorem tri_pos : ∀ i, 2 ≤ i → 1 ≤ tri i
  | 0, h => by omega
  | 1, h => by omega
  | i + 2, _ => by unfold tri; omega
def zc : Cf := ⟨0, 0, 0, 0⟩
theorem conv1 (i : Nat) (hi : i < 128) (b : Nat) (W : World) (h : W.cell? ⟨b, 0, none⟩ = some (.int .u8 (97 + (i : Int)))) : (convert 71 9 (.slice (some ⟨b, 0, none⟩) 1 1)).run Tryz.prog W = .ok (.string ⟨#[UInt8.ofNat (97 + i)]⟩) W := by
  refine run_convert_bytes_back W 71 9 5 ⟨b, 0, none⟩ 1 [UInt8.ofNat (97 + i)] Tryz.underlying71 Tryz.underlying5 Tryz.underlying9 ?_
  intro j hj
  obtain rfl : j = 0 := by simp at hj; omega
  rw [show (⟨b, 0, none⟩ : Addr).add 0 = ⟨b, 0, none⟩ from rfl, h]
  show some _ = some (Value.int .u8 ((UInt8.ofNat (97 + i)).toNat : Int))
  rw [UInt8.toNat_ofNat_of_lt' (by show _ < 256; omega)]
  congr 2
theorem conv2 (i : Nat) (hi : i < 128) (w : World) : (convert 71 9 (.slice (some ⟨w.heap.size, 0, none⟩) 1 1)).run Tryz.prog (w.alloc (.cells #[.int .u8 (97 + (i : Int))] 5)) = .ok (.string ⟨#[UInt8.ofNat (97 + i)]⟩) (w.alloc (.cells #[.int .u8 (97 + (i : Int))] 5)) :=
  conv1 i hi _ _ (by rw [World.cell?_alloc_new]; rfl)
theorem gN_cs {i : Nat} {am : Int} {x : UInt8} (h : UInt8.ofNat (97 + i) = x) : (gN am i).cs = [.string ((⟨#[103]⟩ : ByteArray) ++ ⟨#[x]⟩), .int .i64 (1 + (i : Int) % 2), .int .i64 5, .int .i64 am, .int .i64 0] := by subst h; rfl
theorem sv_cs {n j : Nat} {x : UInt8} {z : Int} {q : Nat} (h : UInt8.ofNat (97 + j) = x) (hz : z = ((2 ^ j : Nat) : Int)) : Sv.cs ⟨sN n j, none, 0, none, 0, none, 0, some ⟨q, 0, none⟩, 1, []⟩ = [.string ((⟨#[115]⟩ : ByteArray) ++ ⟨#[x]⟩), .int .i64 (j : Int), .int .u64 z, .slice none 0 0, .slice none 0 0, .slice none 0 0, .slice (some ⟨q, 0, none⟩) 1 1] := by subst h hz; rfl
theorem pow_hid (j : Nat) (h : j ≤ 25) : ∃ z, Hid (z = ((2 ^ j : Nat) : Int)) ∧ IntKind.u64.wrap ((2 : Int) ^ j) = z := by
  refine ⟨_, rfl, ?_⟩
  have h1 : 2 ^ j ≤ 2 ^ 25 := Nat.pow_le_pow_right (by decide) h
  have e : ((2 : Int) ^ j) = ((2 ^ j : Nat) : Int) := by simp
  rw [e, IntKind.wrap_u64]
  generalize 2 ^ j = z at *
  omega
theorem next_rowS {S : Nat → Prop} {w : World} {b1 b2 : Nat} {dd : Int} (HN : Has w b1 #[.int .i64 2, .int .i32 1, .string ⟨#[]⟩, .int .i64 0, .int .i64 0]) (HX : Has w b2 #[.int .i64 dd, .slice (some ⟨b1, 0, none⟩) 1 1]) (h1 : S b1) (h2 : S b2) : Tns S w (.slice (some ⟨b2, 0, none⟩) 1 1) [⟨dd, on1⟩] := by
  refine .inr ⟨⟨b2, 0, none⟩, 1, rfl, Nat.le_refl _, (by show 1 ≤ _; omega), .inr ⟨rfl, h2, HX.1, fun i hi => ?_⟩⟩
  obtain rfl : i = 0 := by have : i < 1 := hi; omega
  refine ⟨[.int .i64 dd, .slice (some ⟨b1, 0, none⟩) 1 1], rfl, ⟨_, rfl, .inr ⟨⟨b1, 0, none⟩, 1, rfl, Nat.le_refl _, (by show 1 ≤ _; omega), .inr ⟨rfl, h1, HN.1, fun k hk => ?_⟩⟩⟩, fun j u hu => ?_⟩
  · obtain rfl : k = 0 := by have : k < 1 := hk; omega
    refine ⟨[.int .i64 2, .int .i32 1, .string ⟨#[]⟩, .int .i64 0, .int .i64 0], rfl, rfl, fun j u hu => ?_⟩
    show w.cell? ⟨b1, 0 + 0 * 5 + j, none⟩ = some u
    rw [show 0 + 0 * 5 + j = j by omega, HN.2.1 j, ← hu]
    simp
  · show w.cell? ⟨b2, 0 + 0 * 2 + j, none⟩ = some u
    rw [show 0 + 0 * 2 + j = j by omega, HX.2.1 j, ← hu]
    simp
theorem byte_hid (i : Nat) : ∃ x, Hid (UInt8.ofNat (97 + i) = x) := ⟨_, rfl⟩
set_option maxRecDepth 100000 in
set_option maxHeartbeats 8000000 in
/-- fine: a ring. -/
theorem fine_any (n : Nat) (am V : Int) (w : World) (h2 : 2 ≤ n) (h26 : n ≤ 26) (a3 : 3 ≤ am) (a60 : am ≤ 60) (v1 : am ≤ V) (v2 : V ≤ 3060) :
    Calls Tryz.prog 6 #[.int .i64 (n : Int), .int .i64 am, .int .i64 V] w fun e w' => FinP n am V w e w' := by
  obtain ⟨i73, h73, h730, h731, h732⟩ := info_parts info44
  obtain ⟨i75, h75, h750, h751, h752⟩ := info_parts info47
  obtain ⟨i51, h51, h510, h511, h512⟩ := info_parts info81
  have I0 : Fi w (fun b => if b < w.heap.size then 5 else 4) ((w.alloc (.cells #[.string ⟨#[]⟩, .slice none 0 0, .slice none 0 0, .slice none 0 0, .slice none 0 0, .slice none 0 0, .slice none 0 0, .slice none 0 0, .int .i64 0] 31)).alloc (.cells #[.string ⟨#[114, 105, 110, 103]⟩, .slice none 0 0, .slice none 0 0, .slice none 0 0, .slice none 0 0, .slice none 0 0, .slice none 0 0, .slice none 0 0, .int .i64 0] 31)) #[.string ⟨#[]⟩, .slice none 0 0, .slice none 0 0, .slice none 0 0, .slice none 0 0, .slice none 0 0, .slice none 0 0, .slice none 0 0, .int .i64 0] #[.string ⟨#[114, 105, 110, 103]⟩, .slice none 0 0, .slice none 0 0, .slice none 0 0, .slice none 0 0, .slice none 0 0, .slice none 0 0, .slice none 0 0, .int .i64 0] [] [] [] (.slice none 0 0) (.slice none 0 0) (.slice none 0 0) :=
    ⟨belA, (Has.new w _ _ rfl).alloc _, Has.new _ _ _ (by simp), by simp, by simp, ⟨⟨World.ownsRow_nil _ _ _ _, fun g hg => (by simp [Value.ownBlock] at hg)⟩, ⟨World.ownsRow_nil _ _ _ _, fun g hg => (by simp [Value.ownBlock] at hg)⟩, ⟨World.ownsRow_nil _ _ _ _, fun g hg => (by simp [Value.ownBlock] at hg)⟩, fun y hy => (by cases hy)⟩⟩
  go_enter Tryz.func6, Tryz.ntmps6
  go_wp2_with fail
  generalize ((w.alloc (.cells #[.string ⟨#[]⟩, .slice none 0 0, .slice none 0 0, .slice none 0 0, .slice none 0 0, .slice none 0 0, .slice none 0 0, .slice none 0 0, .int .i64 0] 31)).alloc (.cells #[.string ⟨#[114, 105, 110, 103]⟩, .slice none 0 0, .slice none 0 0, .slice none 0 0, .slice none 0 0, .slice none 0 0, .slice none 0 0, .slice none 0 0, .int .i64 0] 31)) = Y0 at *
  go_loopg [8, 9, 10] n (fun gk s8 s9 s10 wr => ∃ (i : Nat) (o : Nat → Nat) (G : List Gp) (C : List Cf) (ga ca : Option Addr) (gc cc : Nat), i + gk = n ∧ s8 = .int .i64 (i : Int) ∧ Hid (G = gL i am) ∧ Hid (G.length = i) ∧ Hid (C.length = tri i) ∧ Hid (Fi w o wr #[.string ⟨#[]⟩, .slice none 0 0, .slice none 0 0, .slice none 0 0, .slice none 0 0, .slice none 0 0, .slice none 0 0, .slice none 0 0, .int .i64 0] #[.string ⟨#[114, 105, 110, 103]⟩, .slice ga G.length gc, .slice ca C.length cc, .slice none 0 0, .slice none 0 0, .slice none 0 0, .slice none 0 0, .slice none 0 0, .int .i64 0] G C [] (.slice ga G.length gc) (.slice ca C.length cc) (.slice none 0 0)))
  case atStart => exact ⟨0, _, [], [], none, none, 0, 0, by omega, rfl, rfl, rfl, rfl, I0⟩
  case round =>
    obtain ⟨i, o, G, C, ga, ca, gc, cc, hk, rfl, hG, hGl, hCl, hI⟩ := hrel
    have hub := hI.out.hb.size
    by_cases hlt : i < n
    · have t1 : (i : Int) < (n : Int) := by omega
      have t0 : (0 : Int) ≤ (i : Int) := by omega
      have t3 : (i : Int) ≤ 25 := by omega
      have gl : G.length ≤ 26 := by have := hGl.out; omega
      have hcv := conv2 i (by omega) wr
      obtain ⟨bx, hbx⟩ := byte_hid i
      rw [hbx.out] at hcv
      have hI1 := hI.out.below (bel1 (.cells #[.int .u8 (97 + (i : Int))] 5))
      have B1 : Below wr.heap.size wr (wr.alloc (.cells #[.int .u8 (97 + (i : Int))] 5)) := bel1 _
      go_upto_region 6 with fail
      generalize (wr.alloc (.cells #[.int .u8 (97 + (i : Int))] 5)) = wa at *
      clear hcv hI
      have hI2 := hI1.below (bel1 (.cells #[.string ((⟨#[103]⟩ : ByteArray) ++ ⟨#[bx]⟩), .int .i64 (1 + (i : Int) % 2), .int .i64 5, .int .i64 am, .int .i64 0] 73))
      obtain ⟨_, u1, uz1⟩ := id hI1.ub
      go_wp2_with (at_builtin; (refine wpList_append_mine _ rfl _ _ 22 rfl w.heap.size 73 i73 _ 5 48 Tryz.underlying22 h73 h730 h731 h732 rfl (by decide) (.slice ga G.length gc) G.length (cellsF Gp.cs G) rfl hI2.rn.oG.own ⟨wa.heap.size, 0, none⟩ 1 1 [.string ((⟨#[103]⟩ : ByteArray) ++ ⟨#[bx]⟩), .int .i64 (1 + (i : Int) % 2), .int .i64 5, .int .i64 am, .int .i64 0] rfl rfl (cells_at (W := wa) rfl _ _) (all_one rfl) (by decide) (by unfold maxLen; omega) (by omega) hI2.hb.size ?_); intro g7 k7 w7 o7 gr7 at7 _ hc7; rw [← gN_cs hbx.out] at o7; obtain ⟨o2, hI3⟩ := hI1.pushG (bel1 _) (gN am i) gr7 at7 o7; clear u1 uz1; obtain ⟨_, u3, uz3⟩ := id hI3.ub)
      have hI4 := hI3.setU 1 (by simp) (.slice (some ⟨g7, 0, none⟩) (G.length + 1) k7)
      simp only [List.setIfInBounds_toArray, List.set_cons_succ, List.set_cons_zero] at hI4
      have hG2 : Hid (G ++ [gN am i] = gL (i + 1) am) := by show _ = _; rw [hG.out]; unfold gL; rw [List.range_succ]; simp
      have hGl2 : Hid ((G ++ [gN am i]).length = i + 1) := by show _ = _; rw [List.length_append, hGl.out]; rfl
      clear hI1 hI2 hI3 u3 uz3 o7 gr7 at7 hc7 hG B1
      generalize (w7.setCell ⟨w.heap.size + 1, 1, none⟩ (.slice (some ⟨g7, 0, none⟩) (G.length + 1) k7)) = wb at *
      obtain ⟨gko, rfl⟩ : ∃ z, z = gk := ⟨_, rfl⟩
      obtain ⟨wro, rfl⟩ : ∃ z, z = wr := ⟨_, rfl⟩
      go_loopg [10] i (fun gk s10 wr => ∃ (k : Nat) (o : Nat → Nat) (C : List Cf) (ca : Option Addr) (cc : Nat), k + gk = i ∧ s10 = .int .i64 (k : Int) ∧ Hid (C.length = tri i + k) ∧ Hid (Fi w o wr #[.string ⟨#[]⟩, .slice none 0 0, .slice none 0 0, .slice none 0 0, .slice none 0 0, .slice none 0 0, .slice none 0 0, .slice none 0 0, .int .i64 0] #[.string ⟨#[114, 105, 110, 103]⟩, (.slice (some ⟨g7, 0, none⟩) (G.length + 1) k7), (.slice ca C.length cc), .slice none 0 0, .slice none 0 0, .slice none 0 0, .slice none 0 0, (.slice none 0 0), .int .i64 0] (G ++ [gN am i]) C [] (.slice (some ⟨g7, 0, none⟩) (G.length + 1) k7) (.slice ca C.length cc) (.slice none 0 0)))
      case atStart => exact ⟨0, o2, C, ca, cc, by omega, rfl, hCl, hI4⟩
      case round =>
        obtain ⟨k, o3, C2, ca2, cc2, hk2, rfl, hCl2, hJ⟩ := hrel
        by_cases hlt2 : k < i
        · have s1 : (k : Int) < (i : Int) := by omega
          have s0 : (0 : Int) ≤ (k : Int) := by omega
          have cl2 : C2.length ≤ 800 := by have := tri_le i (by omega); have := hCl2.out; omega
          have hJ1 := hJ.out.below (bel1 (.cells #[.int .i64 0, .int .i64 0, .int .i64 0, .int .i64 0] 75))
          obtain ⟨_, u1, uz1⟩ := id hJ.out.ub
          go_wp2_with (at_builtin; (refine wpList_append_mine _ rfl _ _ 23 rfl w.heap.size 75 i75 _ 4 32 Tryz.underlying23 h75 h750 h751 h752 rfl (by decide) (.slice ca2 C2.length cc2) C2.length (cellsF Cf.cs C2) rfl hJ1.rn.oC.own ⟨wr.heap.size, 0, none⟩ 1 1 [.int .i64 0, .int .i64 0, .int .i64 0, .int .i64 0] rfl rfl (cells_at (W := wr) rfl _ _) (all_one rfl) (by decide) (by unfold maxLen; omega) (by omega) hJ1.hb.size ?_); intro g8 k8 w8 o8 gr8 at8 _ hc8; obtain ⟨o4, hJ2⟩ := hJ.out.pushC (bel1 _) zc gr8 at8 o8; clear u1 uz1; obtain ⟨_, u3, uz3⟩ := id hJ2.ub)
          have hJ3 := hJ2.setU 2 (by simp) (.slice (some ⟨g8, 0, none⟩) (C2.length + 1) k8)
          simp only [List.setIfInBounds_toArray, List.set_cons_succ, List.set_cons_zero] at hJ3
          have hCl3 : Hid ((C2 ++ [zc]).length = tri i + (k + 1)) := by show _ = _; rw [List.length_append, hCl2.out]; rfl
          have hJ4 : Hid (Fi w o4 (w8.setCell ⟨w.heap.size + 1, 2, none⟩ (.slice (some ⟨g8, 0, none⟩) (C2.length + 1) k8)) #[.string ⟨#[]⟩, .slice none 0 0, .slice none 0 0, .slice none 0 0, .slice none 0 0, .slice none 0 0, .slice none 0 0, .slice none 0 0, .int .i64 0] #[.string ⟨#[114, 105, 110, 103]⟩, (.slice (some ⟨g7, 0, none⟩) (G.length + 1) k7), (.slice (some ⟨g8, 0, none⟩) (C2 ++ [zc]).length k8), .slice none 0 0, .slice none 0 0, .slice none 0 0, .slice none 0 0, (.slice none 0 0), .int .i64 0] (G ++ [gN am i]) (C2 ++ [zc]) [] (.slice (some ⟨g7, 0, none⟩) (G.length + 1) k7) (.slice (some ⟨g8, 0, none⟩) (C2 ++ [zc]).length k8) (.slice none 0 0)) := by rw [show (C2 ++ [zc]).length = C2.length + 1 by simp]; exact hJ3
          clear hJ hJ1 hJ2 hJ3 u3 uz3 o8 gr8 at8 hc8
          go_roundg (gk - 1)
          case measure => go_light; omega
          case rel => exact ⟨k + 1, o4, C2 ++ [zc], _, k8, by omega, by go_num, hCl3, hJ4⟩
        · have s1 : ¬ (k : Int) < (i : Int) := by omega
          obtain rfl : k = i := by omega
          have hCl3 : Hid (C2.length = tri (k + 1)) := hCl2
          have hJ4 : Hid (Fi w o3 wr #[.string ⟨#[]⟩, .slice none 0 0, .slice none 0 0, .slice none 0 0, .slice none 0 0, .slice none 0 0, .slice none 0 0, .slice none 0 0, .int .i64 0] #[.string ⟨#[114, 105, 110, 103]⟩, (.slice (some ⟨g7, 0, none⟩) (G ++ [gN am k]).length k7), (.slice ca2 C2.length cc2), .slice none 0 0, .slice none 0 0, .slice none 0 0, .slice none 0 0, (.slice none 0 0), .int .i64 0] (G ++ [gN am k]) C2 [] (.slice (some ⟨g7, 0, none⟩) (G ++ [gN am k]).length k7) (.slice ca2 C2.length cc2) (.slice none 0 0)) := by rw [show (G ++ [gN am k]).length = G.length + 1 by simp]; exact hJ.out
          clear hJ
          go_wp2_with fail
          go_roundg (gko - 1)
          case measure => go_light; omega
          case rel => exact ⟨k + 1, o3, G ++ [gN am k], C2, _, _, _, _, by omega, by go_num, hG2, hGl2, hCl3, hJ4⟩
    · have t1 : ¬ (i : Int) < (n : Int) := by omega
      obtain rfl : i = n := by omega
      have tp := tri_pos i h2
      have hCl0 := hCl.out
      obtain ⟨gC, cap, e1, _, hgB, hgC⟩ := own_block hI.out.rn.oC.own (by omega)
      injection e1 with e1 e0 e2
      clear e0
      subst e1
      subst e2
      obtain ⟨m, hm⟩ : ∃ m, Hid (tri i = m) := ⟨_, rfl⟩
      have hm1 : Hid (1 ≤ m ∧ m ≤ 676) := by have := tri_le i h26; have := hm.out; show _ ∧ _; omega
      have hCm : Hid (C.length = m) := by show _ = _; rw [hCl0]; exact hm.out
      rw [hCm.out, hGl.out] at hI
      have hgC : gC < wr.heap.size := hgC
      have hgR : Hid (∀ W : World, gC < W.heap.size ∨ True) := fun _ => .inr trivial
      clear hub hk hCl0 hCl hgR
      go_wp2_with fail
      obtain ⟨wr1, rfl⟩ : ∃ z, z = wr := ⟨_, rfl⟩
      go_loopg [11, 12, 13] i (fun gk s11 s12 s13 wr => ∃ (a c : Nat) (C : List Cf), a + gk = i ∧ s11 = .int .i64 (c : Int) ∧ s12 = .int .i64 (a : Int) ∧ Hid (c + tri (i - a) = m) ∧ Hid ((C.take c).map pr = prM i a) ∧ Hid (∀ d ∈ C.take c, d.ab = V ∧ d.ba = V) ∧ Hid (C.length = m) ∧ Hid (Fi w o wr #[.string ⟨#[]⟩, .slice none 0 0, .slice none 0 0, .slice none 0 0, .slice none 0 0, .slice none 0 0, .slice none 0 0, .slice none 0 0, .int .i64 0] #[.string ⟨#[114, 105, 110, 103]⟩, (.slice ga i gc), (.slice (some ⟨gC, 0, none⟩) m cc), .slice none 0 0, .slice none 0 0, .slice none 0 0, .slice none 0 0, (.slice none 0 0), .int .i64 0] G C [] (.slice ga i gc) (.slice (some ⟨gC, 0, none⟩) m cc) (.slice none 0 0)))
      case atStart => exact ⟨0, 0, C, by omega, rfl, rfl, by show 0 + tri (i - 0) = m; rw [Nat.zero_add]; exact hm.out, rfl, fun d hd => (by simp at hd), hCm, hI⟩
      case round =>
        obtain ⟨a, c, C3, hk3, rfl, rfl, hc3, hp3, hv3, hl3, hI3⟩ := hrel
        by_cases hlt3 : a < i
        · have s1 : (a : Int) < (i : Int) := by omega
          have s0 : (0 : Int) ≤ (a : Int) := by omega
          go_wp2_with fail
          obtain ⟨gk3, rfl⟩ : ∃ z, z = gk := ⟨_, rfl⟩
          obtain ⟨wr3, rfl⟩ : ∃ z, z = wr := ⟨_, rfl⟩
          go_loopg [11, 13] (i - 1 - a) (fun gk s11 s13 wr => ∃ (d : Nat) (C : List Cf), a + 1 + d + gk = i ∧ s11 = .int .i64 ((c + d : Nat) : Int) ∧ s13 = .int .i64 ((a + 1 + d : Nat) : Int) ∧ Hid ((C.take (c + d)).map pr = prM i a ++ rwL i a d) ∧ Hid (∀ x ∈ C.take (c + d), x.ab = V ∧ x.ba = V) ∧ Hid (C.length = m) ∧ Hid (Fi w o wr #[.string ⟨#[]⟩, .slice none 0 0, .slice none 0 0, .slice none 0 0, .slice none 0 0, .slice none 0 0, .slice none 0 0, .slice none 0 0, .int .i64 0] #[.string ⟨#[114, 105, 110, 103]⟩, (.slice ga i gc), (.slice (some ⟨gC, 0, none⟩) m cc), .slice none 0 0, .slice none 0 0, .slice none 0 0, .slice none 0 0, (.slice none 0 0), .int .i64 0] G C [] (.slice ga i gc) (.slice (some ⟨gC, 0, none⟩) m cc) (.slice none 0 0)))
          case atStart => exact ⟨0, C3, by omega, rfl, by go_num, by show _ = _; rw [Nat.add_zero]; simpa [rwL] using hp3.out, hv3, hl3, hI3⟩
          case round =>
            obtain ⟨d, C4, hk4, rfl, rfl, hp4, hv4, hl4, hI4⟩ := hrel
            by_cases hlt4 : a + 1 + d < i
            · have r1 : ((a + 1 + d : Nat) : Int) < (i : Int) := by omega
              have r0 : (0 : Int) ≤ ((a + 1 + d : Nat) : Int) := by omega
              have hcm : c + d < m := by
                have h1 := hc3.out
                have e : i - a = (i - a - 1) + 1 := by omega
                rw [e] at h1
                unfold tri at h1
                omega
              have q0 : (0 : Int) ≤ ((c + d : Nat) : Int) := by omega
              have q1 : ((c + d : Nat) : Int) < (m : Int) := by omega
              have ow := hI4.out.rn.oC.own
              rw [hl4.out] at ow
              have fz := ow.frozenAt
              obtain ⟨x0, e0⟩ := own_some ow ((c + d) * 4) (by omega)
              obtain ⟨x1, e1⟩ := own_some ow ((c + d) * 4 + 1) (by omega)
              obtain ⟨x2, e2⟩ := own_some ow ((c + d) * 4 + 2) (by omega)
              obtain ⟨x3, e3⟩ := own_some ow ((c + d) * 4 + 3) (by omega)
              have gW : gC < wr.heap.size := (own_lt ow gC rfl).2
              have nex : gC ≠ w.heap.size + 1 := by
                intro e
                have t1 := hI4.out.t1
                have t2 := hI4.out.rn.oC.tag gC rfl
                rw [← e, t2] at t1; cases t1
              have cm : c + d ≤ 700 := by have := hm1.out; omega
              have o8 := ((((ow.stored ((c + d) * 4) (.int .i64 (a : Int))).1.stored ((c + d) * 4 + 1) (.int .i64 ((a : Int) + 1 + (d : Int)))).1.stored ((c + d) * 4 + 2) (.int .i64 V)).1.stored ((c + d) * 4 + 3) (.int .i64 V)).1
              have y8 : Only (fun q => q = gC) wr ((((wr.setCell ⟨gC, (c + d) * 4, none⟩ (.int .i64 (a : Int))).setCell ⟨gC, (c + d) * 4 + 1, none⟩ (.int .i64 ((a : Int) + 1 + (d : Int)))).setCell ⟨gC, (c + d) * 4 + 2, none⟩ (.int .i64 V)).setCell ⟨gC, (c + d) * 4 + 3, none⟩ (.int .i64 V)) := (((only_of_set wr gC _ _).trans (only_of_set _ gC _ _)).trans (only_of_set _ gC _ _)).trans (only_of_set _ gC _ _)
              have hlt5 : c + d < C4.length := by have := hl4.out; omega
              rw [cf_put hlt5 ⟨a, (a : Int) + 1 + (d : Int), V, V⟩] at o8
              have hl5 : Hid ((C4.set (c + d) ⟨a, (a : Int) + 1 + (d : Int), V, V⟩).length = m) := by show _ = _; rw [List.length_set]; exact hl4.out
              have hI5 : Hid (Fi w o ((((wr.setCell ⟨gC, (c + d) * 4, none⟩ (.int .i64 (a : Int))).setCell ⟨gC, (c + d) * 4 + 1, none⟩ (.int .i64 ((a : Int) + 1 + (d : Int)))).setCell ⟨gC, (c + d) * 4 + 2, none⟩ (.int .i64 V)).setCell ⟨gC, (c + d) * 4 + 3, none⟩ (.int .i64 V)) #[.string ⟨#[]⟩, .slice none 0 0, .slice none 0 0, .slice none 0 0, .slice none 0 0, .slice none 0 0, .slice none 0 0, .slice none 0 0, .int .i64 0] #[.string ⟨#[114, 105, 110, 103]⟩, (.slice ga i gc), (.slice (some ⟨gC, 0, none⟩) m cc), .slice none 0 0, .slice none 0 0, .slice none 0 0, .slice none 0 0, (.slice none 0 0), .int .i64 0] G (C4.set (c + d) ⟨a, (a : Int) + 1 + (d : Int), V, V⟩) [] (.slice ga i gc) (.slice (some ⟨gC, 0, none⟩) m cc) (.slice none 0 0)) := hI4.out.setC rfl y8 (by rw [hl5.out]; exact o8)
              have hp5 : Hid (((C4.set (c + d) ⟨a, (a : Int) + 1 + (d : Int), V, V⟩).take (c + (d + 1))).map pr = prM i a ++ rwL i a (d + 1)) := by
                show _ = _
                rw [show c + (d + 1) = c + d + 1 by omega, take_set_succ hlt5, List.map_append, hp4.out, rw_succ, List.append_assoc]
                congr 2
              have hv5 : Hid (∀ x ∈ (C4.set (c + d) ⟨a, (a : Int) + 1 + (d : Int), V, V⟩).take (c + (d + 1)), x.ab = V ∧ x.ba = V) := by
                intro x hx
                rw [show c + (d + 1) = c + d + 1 by omega, take_set_succ hlt5] at hx
                rcases List.mem_append.1 hx with hx | hx
                · exact hv4.out x hx
                · rw [List.mem_singleton.1 hx]; exact ⟨rfl, rfl⟩
              obtain ⟨_, u1, uz1⟩ := id hI4.out.ub
              clear ow o8 y8 hI4 hp4 hv4 hl4 hI3 hp3 hv3 hl3 hI hcm
              go_wp2_with fail
              go_roundg (gk - 1)
              case measure => go_light; omega
              case rel => exact ⟨d + 1, _, by omega, by go_num, by go_num, hp5, hv5, hl5, hI5⟩
            · have r1 : ¬ ((a + 1 + d : Nat) : Int) < (i : Int) := by omega
              obtain rfl : d = i - 1 - a := by omega
              have hp6 : Hid ((C4.take (c + (i - 1 - a))).map pr = prM i (a + 1)) := by show _ = _; rw [hp4.out, prM_succ]
              have hc6 : Hid (c + (i - 1 - a) + tri (i - (a + 1)) = m) := by
                show _ = _
                have h1 := hc3.out
                have e : i - a = (i - (a + 1)) + 1 := by omega
                rw [e] at h1
                unfold tri at h1
                omega
              clear hI3 hp3 hv3 hl3 hI hc3 hp4
              go_wp2_with fail
              go_roundg (gk3 - 1)
              case measure => go_light; omega
              case rel => exact ⟨a + 1, c + (i - 1 - a), C4, by omega, rfl, by go_num, hc6, hp6, hv4, hl4, hI4⟩
        · have s1 : ¬ (a : Int) < (i : Int) := by omega
          obtain rfl : a = i := by omega
          have hcm : Hid (c = m) := by show _ = _; have := hc3.out; rw [Nat.sub_self] at this; exact this
          have htk : C3.take c = C3 := List.take_of_length_le (by have := hcm.out; have := hl3.out; omega)
          have hCs : Hid (Cs a am V C3) := ⟨by have := hp3.out; rw [htk] at this; exact this, by have := hv3.out; rw [htk] at this; exact this, v1, v2⟩
          clear hc3 hp3 hv3 htk hcm hI hCm
          go_wp2_with fail
          obtain ⟨wr2, rfl⟩ : ∃ z, z = wr := ⟨_, rfl⟩
          go_loopg [14, 15] a (fun gk s14 s15 wr => ∃ (j : Nat) (o : Nat → Nat) (Y : List Sv) (sa : Option Addr) (sc : Nat), j + gk = a ∧ s14 = .int .i64 (j : Int) ∧ Hid (Y.map (·.x) = (List.range j).map (sN a)) ∧ Hid (Y.length = j) ∧ Hid (Fi w o wr #[.string ⟨#[]⟩, .slice none 0 0, .slice none 0 0, .slice none 0 0, .slice none 0 0, .slice none 0 0, .slice none 0 0, .slice none 0 0, .int .i64 0] #[.string ⟨#[114, 105, 110, 103]⟩, (.slice ga a gc), (.slice (some ⟨gC, 0, none⟩) m cc), .slice none 0 0, .slice none 0 0, .slice none 0 0, .slice none 0 0, (.slice sa Y.length sc), .int .i64 0] G C3 Y (.slice ga a gc) (.slice (some ⟨gC, 0, none⟩) m cc) (.slice sa Y.length sc)))
          case atStart => exact ⟨0, o, [], none, 0, by omega, rfl, rfl, rfl, hI3⟩
          case round =>
            obtain ⟨j, o5, Y, sa, sc, hk5, rfl, hY, hYl, hI5⟩ := hrel
            by_cases hlt5 : j < a
            · have q1 : (j : Int) < (a : Int) := by omega
              have q0 : (0 : Int) ≤ (j : Int) := by omega
              have q3 : (j : Int) ≤ 25 := by omega
              obtain ⟨bx, hbx⟩ := byte_hid j
              obtain ⟨gr, hgr, hw3⟩ := pow_hid j (by omega)
              have hw1 := Go.IntWalk.i64_in (97 + (j : Int)) (by omega)
              have hw2 := Go.IntWalk.u8_in (97 + (j : Int)) (by omega)
              have hcA := conv1 j (by omega) wr.heap.size (wr.alloc (.cells #[.int .u8 (97 + (j : Int))] 5)).drew (by show (wr.alloc _).cell? _ = _; rw [World.cell?_alloc_new]; rfl)
              have hcB := conv1 j (by omega) wr.heap.size ((wr.alloc (.cells #[.int .u8 (97 + (j : Int))] 5)).alloc (.cells #[.string ⟨#[]⟩, .int .i64 0, .int .u64 0, .slice none 0 0, .slice none 0 0, .slice none 0 0, .slice none 0 0] 51)).drew (by show ((wr.alloc _).alloc _).cell? _ = _; rw [World.cell?_alloc_lt _ _ _ (by simp), World.cell?_alloc_new]; rfl)
              have hcC := conv1 j (by omega) (wr.heap.size + 1) ((wr.alloc (.cells #[.string ⟨#[]⟩, .int .i64 0, .int .u64 0, .slice none 0 0, .slice none 0 0, .slice none 0 0, .slice none 0 0] 51)).alloc (.cells #[.int .u8 (97 + (j : Int))] 5)).drew (by show ((wr.alloc _).alloc _).cell? _ = _; rw [show wr.heap.size + 1 = (wr.alloc (.cells #[.string ⟨#[]⟩, .int .i64 0, .int .u64 0, .slice none 0 0, .slice none 0 0, .slice none 0 0, .slice none 0 0] 51)).heap.size by simp, World.cell?_alloc_new]; rfl)
              rw [hbx.out] at hcA hcB hcC
              go_wp2_with fail
              refine wp_region_noPanic ?_
              refine wp_region_held_drew (S := fun w' => True) (by kernel_rfl) trivial (fun hHeld => ?_)
              refine tkY 0 ?_
              refine tkY 1 ?_
              refine tkY 2 ?_
              refine tkY 6 ?_
              refine tkY 7 ?_
              refine tkY 8 ?_
              refine wpAnyH_ready (rs := [3, 10]) (by kernel_rfl) (by simp) ?_
              refine (AllReadyH.cons (o := { dst := some 86, op := Op.buildSlice 71 1 #[(0, Operand.tmp 85)], type := 71, pos := "outright.go:169", after := #[{ on := 2, ground := Ground.data }], guard := none }) rfl (fun K hK => ?_) (AllReadyH.cons (o := { dst := some 15, op := Op.alloc 51, type := 0, pos := "outright.go:169", after := #[], guard := none }) rfl (fun K hK => ?_) AllReadyH.nil))
              · go_simp
                refine hK.out _ _ trivial (fun hHeld => ?_)
                clear hK K
                (try simp only [Act.put, List.setIfInBounds_toArray, List.set_cons_zero, List.set_cons_succ])
                refine wpAnyH_ready (rs := [4, 10]) (by kernel_rfl) (by simp) ?_
                refine (AllReadyH.cons (o := { dst := some 87, op := Op.convert 71 9 (Operand.tmp 86), type := 9, pos := "outright.go:169", after := #[{ on := 3, ground := Ground.data }], guard := none }) rfl (fun K hK => ?_) (AllReadyH.cons (o := { dst := some 15, op := Op.alloc 51, type := 0, pos := "outright.go:169", after := #[], guard := none }) rfl (fun K hK => ?_) AllReadyH.nil))
                · go_simp
                  refine hK.out _ _ trivial (fun hHeld => ?_)
                  clear hK K
                  (try simp only [Act.put, List.setIfInBounds_toArray, List.set_cons_zero, List.set_cons_succ])
                  refine tkY 5 ?_
                  refine tkY 9 ?_
                  refine wpAnyH_ready (rs := [10]) (by kernel_rfl) (by simp) ?_
                  refine (AllReadyH.cons (o := { dst := some 15, op := Op.alloc 51, type := 0, pos := "outright.go:169", after := #[], guard := none }) rfl (fun K hK => ?_) AllReadyH.nil)
                  go_simp
                  refine hK.out _ _ trivial (fun hHeld => ?_)
                  clear hK K
                  (try simp only [Act.put, List.setIfInBounds_toArray, List.set_cons_zero, List.set_cons_succ])
                  refine wpAnyH_ready (rs := [11]) (by kernel_rfl) (by simp) ?_
                  refine (AllReadyH.cons (o := { dst := none, op := Op.store 51 (Operand.tmp 15) (Operand.tmp 92), type := 0, pos := "outright.go:169", after := #[{ on := 10, ground := Ground.data }, { on := 9, ground := Ground.data }, { on := 0, ground := Ground.phase }, { on := 1, ground := Ground.phase }, { on := 2, ground := Ground.phase }, { on := 3, ground := Ground.phase }, { on := 4, ground := Ground.phase }, { on := 5, ground := Ground.phase }, { on := 6, ground := Ground.phase }, { on := 7, ground := Ground.phase }, { on := 8, ground := Ground.phase }, { on := 9, ground := Ground.phase }, { on := 10, ground := Ground.phase }], guard := none }) rfl (fun K hK => ?_) AllReadyH.nil)
                  go_simp
                  refine hK.out _ _ trivial (fun hHeld => ?_)
                  clear hK K
                  (try simp only [Act.put, List.setIfInBounds_toArray, List.set_cons_zero, List.set_cons_succ])
                  refine wpAnyH_done (by kernel_rfl) ?_ _
                  refine NoPanic.normal ?_
                  have HP : Hid (Has ((wr.alloc (.cells #[.int .u8 (97 + (j : Int))] 5)).alloc (.cells #[.string ((⟨#[115]⟩ : ByteArray) ++ ⟨#[bx]⟩), .int .i64 (j : Int), .int .u64 gr, .slice none 0 0, .slice none 0 0, .slice none 0 0, .slice none 0 0] 51)).drew (wr.heap.size + 1) #[.string ((⟨#[115]⟩ : ByteArray) ++ ⟨#[bx]⟩), .int .i64 (j : Int), .int .u64 gr, .slice none 0 0, .slice none 0 0, .slice none 0 0, .slice none 0 0]) := (Has.new _ _ _ (by simp)).drew
                  have BP : Hid (Below wr.heap.size wr ((wr.alloc (.cells #[.int .u8 (97 + (j : Int))] 5)).alloc (.cells #[.string ((⟨#[115]⟩ : ByteArray) ++ ⟨#[bx]⟩), .int .i64 (j : Int), .int .u64 gr, .slice none 0 0, .slice none 0 0, .slice none 0 0, .slice none 0 0] 51)).drew) := belA.drew
                  clear hcA hcB hcC hHeld hw1 hw2 hw3
                  generalize ((wr.alloc (.cells #[.int .u8 (97 + (j : Int))] 5)).alloc (.cells #[.string ((⟨#[115]⟩ : ByteArray) ++ ⟨#[bx]⟩), .int .i64 (j : Int), .int .u64 gr, .slice none 0 0, .slice none 0 0, .slice none 0 0, .slice none 0 0] 51)).drew = W5 at *
                  have s0 := HP.out.1
                  have s0b : (wr.heap.size + 1) < W5.heap.size + 1 := by omega
                  have c6 : W5.cell? ⟨(wr.heap.size + 1), 6, none⟩ = some (.slice none 0 0) := HP.out.2.1 6
                  have f6 := HP.out.2.2 6
                  have j1 : (0 : Int) ≤ (j : Int) + 1 := by omega
                  have j2 : (0 : Int) < (a : Int) := by omega
                  go_upto_region 25 with fail
                  clear c6 f6
                  have sz5 := BP.out.size
                  have HN := (Has.new (W5.setCell ⟨(wr.heap.size + 1), 6, none⟩ (.slice (some ⟨W5.heap.size + 1, 0, none⟩) 1 1)) #[.int .i64 2, .int .i32 1, .string ⟨#[]⟩, .int .i64 0, .int .i64 0] 55 (b := W5.heap.size) (by simp [World.setCell])).alloc (.cells #[.int .i64 (((j : Int) + 1) % (a : Int)), .slice (some ⟨W5.heap.size, 0, none⟩) 1 1] 58)
                  have HX := Has.new ((W5.setCell ⟨(wr.heap.size + 1), 6, none⟩ (.slice (some ⟨W5.heap.size + 1, 0, none⟩) 1 1)).alloc (.cells #[.int .i64 2, .int .i32 1, .string ⟨#[]⟩, .int .i64 0, .int .i64 0] 55)) #[.int .i64 (((j : Int) + 1) % (a : Int)), .slice (some ⟨W5.heap.size, 0, none⟩) 1 1] 58 (b := W5.heap.size + 1) (by simp [World.setCell])
                  have HP2 := ((HP.out.set 6 (by simp) (.slice (some ⟨W5.heap.size + 1, 0, none⟩) 1 1)).alloc (.cells #[.int .i64 2, .int .i32 1, .string ⟨#[]⟩, .int .i64 0, .int .i64 0] 55)).alloc (.cells #[.int .i64 (((j : Int) + 1) % (a : Int)), .slice (some ⟨W5.heap.size, 0, none⟩) 1 1] 58)
                  simp only [List.setIfInBounds_toArray, List.set_cons_succ, List.set_cons_zero] at HP2
                  have BP1 := BP.out.setCell (p := ⟨(wr.heap.size + 1), 6, none⟩) (by show wr.heap.size ≤ (wr.heap.size + 1); omega) (.slice (some ⟨W5.heap.size + 1, 0, none⟩) 1 1)
                  have BP2 := (BP1.alloc BP1.size (.cells #[.int .i64 2, .int .i32 1, .string ⟨#[]⟩, .int .i64 0, .int .i64 0] 55)).alloc (by have := BP1.size; simp; omega) (.cells #[.int .i64 (((j : Int) + 1) % (a : Int)), .slice (some ⟨W5.heap.size, 0, none⟩) 1 1] 58)
                  clear BP1
                  generalize (((W5.setCell ⟨(wr.heap.size + 1), 6, none⟩ (.slice (some ⟨W5.heap.size + 1, 0, none⟩) 1 1)).alloc (.cells #[.int .i64 2, .int .i32 1, .string ⟨#[]⟩, .int .i64 0, .int .i64 0] 55)).alloc (.cells #[.int .i64 (((j : Int) + 1) % (a : Int)), .slice (some ⟨W5.heap.size, 0, none⟩) 1 1] 58)) = W6 at *
                  have hI6 := hI5.out.below BP2
                  have hI7 := hI6.below (bel1 (.cells #[.string ((⟨#[115]⟩ : ByteArray) ++ ⟨#[bx]⟩), .int .i64 (j : Int), .int .u64 gr, .slice none 0 0, .slice none 0 0, .slice none 0 0, .slice (some ⟨W5.heap.size + 1, 0, none⟩) 1 1] 51))
                  have yl : Y.length ≤ 30 := by have := hYl.out; omega
                  have hnx : Hid (Tns (fun b => wr.heap.size ≤ b) (W6.alloc (.cells #[.string ((⟨#[115]⟩ : ByteArray) ++ ⟨#[bx]⟩), .int .i64 (j : Int), .int .u64 gr, .slice none 0 0, .slice none 0 0, .slice none 0 0, .slice (some ⟨W5.heap.size + 1, 0, none⟩) 1 1] 51)) (.slice (some ⟨W5.heap.size + 1, 0, none⟩) 1 1) (sN a j).nexts) := by
                    have e : (((j : Int) + 1) % (a : Int)) = (((j + 1) % a : Nat) : Int) := by rw [Int.natCast_emod]; rfl
                    have h := next_rowS (S := fun b => wr.heap.size ≤ b) (HN.alloc (.cells #[.string ((⟨#[115]⟩ : ByteArray) ++ ⟨#[bx]⟩), .int .i64 (j : Int), .int .u64 gr, .slice none 0 0, .slice none 0 0, .slice none 0 0, .slice (some ⟨W5.heap.size + 1, 0, none⟩) 1 1] 51)) (HX.alloc (.cells #[.string ((⟨#[115]⟩ : ByteArray) ++ ⟨#[bx]⟩), .int .i64 (j : Int), .int .u64 gr, .slice none 0 0, .slice none 0 0, .slice none 0 0, .slice (some ⟨W5.heap.size + 1, 0, none⟩) 1 1] 51)) (by omega) (by omega)
                    rw [e] at h
                    exact h
                  have HPh := hideG HP2
                  have BPh := hideG BP2
                  have hI6h := hideG hI6
                  have h7o := hI7.rn.oS.own
                  have h7s := hI7.hb.size
                  have h6c := hideG (bel_after BP2 BP2.size (bel1 (.cells #[.string ((⟨#[115]⟩ : ByteArray) ++ ⟨#[bx]⟩), .int .i64 (j : Int), .int .u64 gr, .slice none 0 0, .slice none 0 0, .slice none 0 0, .slice (some ⟨W5.heap.size + 1, 0, none⟩) 1 1] 51)))
                  clear HN HX BP BP2 HP hI7 s0 s0b
                  obtain ⟨_, u6, uz6⟩ := id hI6.ub
                  obtain ⟨_, p6, pz6⟩ := id HP2
                  clear hI6 HP2
                  go_wp2_with (at_builtin; (refine wpList_append_mine _ rfl _ _ 29 rfl w.heap.size 51 i51 _ 7 128 Tryz.underlying29 h51 h510 h511 h512 rfl (by decide) (.slice sa Y.length sc) Y.length (cellsF Sv.cs Y) rfl h7o ⟨W6.heap.size, 0, none⟩ 1 1 [.string ((⟨#[115]⟩ : ByteArray) ++ ⟨#[bx]⟩), .int .i64 (j : Int), .int .u64 gr, .slice none 0 0, .slice none 0 0, .slice none 0 0, .slice (some ⟨W5.heap.size + 1, 0, none⟩) 1 1] rfl rfl (cells_at (W := W6) rfl _ _) (all_one rfl) (by decide) (by unfold maxLen; omega) (by omega) h7s ?_); intro g9 k9 w9 o9 gr9 at9 _ hc9; rw [← sv_cs (n := a) hbx.out hgr.out] at o9; obtain ⟨o8, hI8⟩ := hI5.out.pushS h6c.out ⟨sN a j, none, 0, none, 0, none, 0, some ⟨W5.heap.size + 1, 0, none⟩, 1, []⟩ ⟨rfl, rfl, rfl, ⟨rfl, rfl⟩, ⟨rfl, rfl⟩, ⟨rfl, rfl⟩⟩ hnx.out gr9 at9 o9; clear u6 uz6 p6 pz6; obtain ⟨_, u8, uz8⟩ := id hI8.ub)
                  have hI9 := hI8.setU 7 (by simp) (.slice (some ⟨g9, 0, none⟩) (Y.length + 1) k9)
                  simp only [List.setIfInBounds_toArray, List.set_cons_succ, List.set_cons_zero] at hI9
                  have hl9 : Hid ((Y ++ [(⟨sN a j, none, 0, none, 0, none, 0, some ⟨W5.heap.size + 1, 0, none⟩, 1, []⟩ : Sv)]).length = j + 1) := by show _ = _; rw [List.length_append, hYl.out]; rfl
                  have hm9 : Hid ((Y ++ [(⟨sN a j, none, 0, none, 0, none, 0, some ⟨W5.heap.size + 1, 0, none⟩, 1, []⟩ : Sv)]).map (·.x) = (List.range (j + 1)).map (sN a)) := by show _ = _; rw [List.map_append, hY.out, List.range_succ, List.map_append]; rfl
                  have hJ9 : Hid (Fi w o8 (w9.setCell ⟨w.heap.size + 1, 7, none⟩ (.slice (some ⟨g9, 0, none⟩) (Y.length + 1) k9)) #[.string ⟨#[]⟩, .slice none 0 0, .slice none 0 0, .slice none 0 0, .slice none 0 0, .slice none 0 0, .slice none 0 0, .slice none 0 0, .int .i64 0] #[.string ⟨#[114, 105, 110, 103]⟩, (.slice ga a gc), (.slice (some ⟨gC, 0, none⟩) m cc), .slice none 0 0, .slice none 0 0, .slice none 0 0, .slice none 0 0, (.slice (some ⟨g9, 0, none⟩) (Y ++ [(⟨sN a j, none, 0, none, 0, none, 0, some ⟨W5.heap.size + 1, 0, none⟩, 1, []⟩ : Sv)]).length k9), .int .i64 0] G C3 (Y ++ [⟨sN a j, none, 0, none, 0, none, 0, some ⟨W5.heap.size + 1, 0, none⟩, 1, []⟩]) (.slice ga a gc) (.slice (some ⟨gC, 0, none⟩) m cc) (.slice (some ⟨g9, 0, none⟩) (Y ++ [(⟨sN a j, none, 0, none, 0, none, 0, some ⟨W5.heap.size + 1, 0, none⟩, 1, []⟩ : Sv)]).length k9)) := by rw [show (Y ++ [(⟨sN a j, none, 0, none, 0, none, 0, some ⟨W5.heap.size + 1, 0, none⟩, 1, []⟩ : Sv)]).length = Y.length + 1 by simp]; exact hI9
                  clear hI8 hI9 u8 uz8 o9 gr9 at9 hI5 hI6h HPh BPh h7o
                  go_roundg (gk - 1)
                  case measure => go_light; omega
                  case rel => exact ⟨j + 1, o8, _, _, k9, by omega, by go_num, hm9, hl9, hJ9⟩
                · go_simp
                  refine hK.out _ _ trivial (fun hHeld => ?_)
                  clear hK K
                  (try simp only [Act.put, List.setIfInBounds_toArray, List.set_cons_zero, List.set_cons_succ])
                  refine wpAnyH_ready (rs := [4]) (by kernel_rfl) (by simp) ?_
                  refine (AllReadyH.cons (o := { dst := some 87, op := Op.convert 71 9 (Operand.tmp 86), type := 9, pos := "outright.go:169", after := #[{ on := 3, ground := Ground.data }], guard := none }) rfl (fun K hK => ?_) AllReadyH.nil)
                  go_simp
                  refine hK.out _ _ trivial (fun hHeld => ?_)
                  clear hK K
                  (try simp only [Act.put, List.setIfInBounds_toArray, List.set_cons_zero, List.set_cons_succ])
                  refine tkY 5 ?_
                  refine tkY 9 ?_
                  refine wpAnyH_ready (rs := [11]) (by kernel_rfl) (by simp) ?_
                  refine (AllReadyH.cons (o := { dst := none, op := Op.store 51 (Operand.tmp 15) (Operand.tmp 92), type := 0, pos := "outright.go:169", after := #[{ on := 10, ground := Ground.data }, { on := 9, ground := Ground.data }, { on := 0, ground := Ground.phase }, { on := 1, ground := Ground.phase }, { on := 2, ground := Ground.phase }, { on := 3, ground := Ground.phase }, { on := 4, ground := Ground.phase }, { on := 5, ground := Ground.phase }, { on := 6, ground := Ground.phase }, { on := 7, ground := Ground.phase }, { on := 8, ground := Ground.phase }, { on := 9, ground := Ground.phase }, { on := 10, ground := Ground.phase }], guard := none }) rfl (fun K hK => ?_) AllReadyH.nil)
                  go_simp
                  refine hK.out _ _ trivial (fun hHeld => ?_)
                  clear hK K
                  (try simp only [Act.put, List.setIfInBounds_toArray, List.set_cons_zero, List.set_cons_succ])
                  refine wpAnyH_done (by kernel_rfl) ?_ _
                  refine NoPanic.normal ?_
                  have HP : Hid (Has ((wr.alloc (.cells #[.int .u8 (97 + (j : Int))] 5)).alloc (.cells #[.string ((⟨#[115]⟩ : ByteArray) ++ ⟨#[bx]⟩), .int .i64 (j : Int), .int .u64 gr, .slice none 0 0, .slice none 0 0, .slice none 0 0, .slice none 0 0] 51)).drew (wr.heap.size + 1) #[.string ((⟨#[115]⟩ : ByteArray) ++ ⟨#[bx]⟩), .int .i64 (j : Int), .int .u64 gr, .slice none 0 0, .slice none 0 0, .slice none 0 0, .slice none 0 0]) := (Has.new _ _ _ (by simp)).drew
                  have BP : Hid (Below wr.heap.size wr ((wr.alloc (.cells #[.int .u8 (97 + (j : Int))] 5)).alloc (.cells #[.string ((⟨#[115]⟩ : ByteArray) ++ ⟨#[bx]⟩), .int .i64 (j : Int), .int .u64 gr, .slice none 0 0, .slice none 0 0, .slice none 0 0, .slice none 0 0] 51)).drew) := belA.drew
                  clear hcA hcB hcC hHeld hw1 hw2 hw3
                  generalize ((wr.alloc (.cells #[.int .u8 (97 + (j : Int))] 5)).alloc (.cells #[.string ((⟨#[115]⟩ : ByteArray) ++ ⟨#[bx]⟩), .int .i64 (j : Int), .int .u64 gr, .slice none 0 0, .slice none 0 0, .slice none 0 0, .slice none 0 0] 51)).drew = W5 at *
                  have s0 := HP.out.1
                  have s0b : (wr.heap.size + 1) < W5.heap.size + 1 := by omega
                  have c6 : W5.cell? ⟨(wr.heap.size + 1), 6, none⟩ = some (.slice none 0 0) := HP.out.2.1 6
                  have f6 := HP.out.2.2 6
                  have j1 : (0 : Int) ≤ (j : Int) + 1 := by omega
                  have j2 : (0 : Int) < (a : Int) := by omega
                  go_upto_region 25 with fail
                  clear c6 f6
                  have sz5 := BP.out.size
                  have HN := (Has.new (W5.setCell ⟨(wr.heap.size + 1), 6, none⟩ (.slice (some ⟨W5.heap.size + 1, 0, none⟩) 1 1)) #[.int .i64 2, .int .i32 1, .string ⟨#[]⟩, .int .i64 0, .int .i64 0] 55 (b := W5.heap.size) (by simp [World.setCell])).alloc (.cells #[.int .i64 (((j : Int) + 1) % (a : Int)), .slice (some ⟨W5.heap.size, 0, none⟩) 1 1] 58)
                  have HX := Has.new ((W5.setCell ⟨(wr.heap.size + 1), 6, none⟩ (.slice (some ⟨W5.heap.size + 1, 0, none⟩) 1 1)).alloc (.cells #[.int .i64 2, .int .i32 1, .string ⟨#[]⟩, .int .i64 0, .int .i64 0] 55)) #[.int .i64 (((j : Int) + 1) % (a : Int)), .slice (some ⟨W5.heap.size, 0, none⟩) 1 1] 58 (b := W5.heap.size + 1) (by simp [World.setCell])
                  have HP2 := ((HP.out.set 6 (by simp) (.slice (some ⟨W5.heap.size + 1, 0, none⟩) 1 1)).alloc (.cells #[.int .i64 2, .int .i32 1, .string ⟨#[]⟩, .int .i64 0, .int .i64 0] 55)).alloc (.cells #[.int .i64 (((j : Int) + 1) % (a : Int)), .slice (some ⟨W5.heap.size, 0, none⟩) 1 1] 58)
                  simp only [List.setIfInBounds_toArray, List.set_cons_succ, List.set_cons_zero] at HP2
                  have BP1 := BP.out.setCell (p := ⟨(wr.heap.size + 1), 6, none⟩) (by show wr.heap.size ≤ (wr.heap.size + 1); omega) (.slice (some ⟨W5.heap.size + 1, 0, none⟩) 1 1)
                  have BP2 := (BP1.alloc BP1.size (.cells #[.int .i64 2, .int .i32 1, .string ⟨#[]⟩, .int .i64 0, .int .i64 0] 55)).alloc (by have := BP1.size; simp; omega) (.cells #[.int .i64 (((j : Int) + 1) % (a : Int)), .slice (some ⟨W5.heap.size, 0, none⟩) 1 1] 58)
                  clear BP1
                  generalize (((W5.setCell ⟨(wr.heap.size + 1), 6, none⟩ (.slice (some ⟨W5.heap.size + 1, 0, none⟩) 1 1)).alloc (.cells #[.int .i64 2, .int .i32 1, .string ⟨#[]⟩, .int .i64 0, .int .i64 0] 55)).alloc (.cells #[.int .i64 (((j : Int) + 1) % (a : Int)), .slice (some ⟨W5.heap.size, 0, none⟩) 1 1] 58)) = W6 at *
                  have hI6 := hI5.out.below BP2
                  have hI7 := hI6.below (bel1 (.cells #[.string ((⟨#[115]⟩ : ByteArray) ++ ⟨#[bx]⟩), .int .i64 (j : Int), .int .u64 gr, .slice none 0 0, .slice none 0 0, .slice none 0 0, .slice (some ⟨W5.heap.size + 1, 0, none⟩) 1 1] 51))
                  have yl : Y.length ≤ 30 := by have := hYl.out; omega
                  have hnx : Hid (Tns (fun b => wr.heap.size ≤ b) (W6.alloc (.cells #[.string ((⟨#[115]⟩ : ByteArray) ++ ⟨#[bx]⟩), .int .i64 (j : Int), .int .u64 gr, .slice none 0 0, .slice none 0 0, .slice none 0 0, .slice (some ⟨W5.heap.size + 1, 0, none⟩) 1 1] 51)) (.slice (some ⟨W5.heap.size + 1, 0, none⟩) 1 1) (sN a j).nexts) := by
                    have e : (((j : Int) + 1) % (a : Int)) = (((j + 1) % a : Nat) : Int) := by rw [Int.natCast_emod]; rfl
                    have h := next_rowS (S := fun b => wr.heap.size ≤ b) (HN.alloc (.cells #[.string ((⟨#[115]⟩ : ByteArray) ++ ⟨#[bx]⟩), .int .i64 (j : Int), .int .u64 gr, .slice none 0 0, .slice none 0 0, .slice none 0 0, .slice (some ⟨W5.heap.size + 1, 0, none⟩) 1 1] 51)) (HX.alloc (.cells #[.string ((⟨#[115]⟩ : ByteArray) ++ ⟨#[bx]⟩), .int .i64 (j : Int), .int .u64 gr, .slice none 0 0, .slice none 0 0, .slice none 0 0, .slice (some ⟨W5.heap.size + 1, 0, none⟩) 1 1] 51)) (by omega) (by omega)
                    rw [e] at h
                    exact h
                  have HPh := hideG HP2
                  have BPh := hideG BP2
                  have hI6h := hideG hI6
                  have h7o := hI7.rn.oS.own
                  have h7s := hI7.hb.size
                  have h6c := hideG (bel_after BP2 BP2.size (bel1 (.cells #[.string ((⟨#[115]⟩ : ByteArray) ++ ⟨#[bx]⟩), .int .i64 (j : Int), .int .u64 gr, .slice none 0 0, .slice none 0 0, .slice none 0 0, .slice (some ⟨W5.heap.size + 1, 0, none⟩) 1 1] 51)))
                  clear HN HX BP BP2 HP hI7 s0 s0b
                  obtain ⟨_, u6, uz6⟩ := id hI6.ub
                  obtain ⟨_, p6, pz6⟩ := id HP2
                  clear hI6 HP2
                  go_wp2_with (at_builtin; (refine wpList_append_mine _ rfl _ _ 29 rfl w.heap.size 51 i51 _ 7 128 Tryz.underlying29 h51 h510 h511 h512 rfl (by decide) (.slice sa Y.length sc) Y.length (cellsF Sv.cs Y) rfl h7o ⟨W6.heap.size, 0, none⟩ 1 1 [.string ((⟨#[115]⟩ : ByteArray) ++ ⟨#[bx]⟩), .int .i64 (j : Int), .int .u64 gr, .slice none 0 0, .slice none 0 0, .slice none 0 0, .slice (some ⟨W5.heap.size + 1, 0, none⟩) 1 1] rfl rfl (cells_at (W := W6) rfl _ _) (all_one rfl) (by decide) (by unfold maxLen; omega) (by omega) h7s ?_); intro g9 k9 w9 o9 gr9 at9 _ hc9; rw [← sv_cs (n := a) hbx.out hgr.out] at o9; obtain ⟨o8, hI8⟩ := hI5.out.pushS h6c.out ⟨sN a j, none, 0, none, 0, none, 0, some ⟨W5.heap.size + 1, 0, none⟩, 1, []⟩ ⟨rfl, rfl, rfl, ⟨rfl, rfl⟩, ⟨rfl, rfl⟩, ⟨rfl, rfl⟩⟩ hnx.out gr9 at9 o9; clear u6 uz6 p6 pz6; obtain ⟨_, u8, uz8⟩ := id hI8.ub)
                  have hI9 := hI8.setU 7 (by simp) (.slice (some ⟨g9, 0, none⟩) (Y.length + 1) k9)
                  simp only [List.setIfInBounds_toArray, List.set_cons_succ, List.set_cons_zero] at hI9
                  have hl9 : Hid ((Y ++ [(⟨sN a j, none, 0, none, 0, none, 0, some ⟨W5.heap.size + 1, 0, none⟩, 1, []⟩ : Sv)]).length = j + 1) := by show _ = _; rw [List.length_append, hYl.out]; rfl
                  have hm9 : Hid ((Y ++ [(⟨sN a j, none, 0, none, 0, none, 0, some ⟨W5.heap.size + 1, 0, none⟩, 1, []⟩ : Sv)]).map (·.x) = (List.range (j + 1)).map (sN a)) := by show _ = _; rw [List.map_append, hY.out, List.range_succ, List.map_append]; rfl
                  have hJ9 : Hid (Fi w o8 (w9.setCell ⟨w.heap.size + 1, 7, none⟩ (.slice (some ⟨g9, 0, none⟩) (Y.length + 1) k9)) #[.string ⟨#[]⟩, .slice none 0 0, .slice none 0 0, .slice none 0 0, .slice none 0 0, .slice none 0 0, .slice none 0 0, .slice none 0 0, .int .i64 0] #[.string ⟨#[114, 105, 110, 103]⟩, (.slice ga a gc), (.slice (some ⟨gC, 0, none⟩) m cc), .slice none 0 0, .slice none 0 0, .slice none 0 0, .slice none 0 0, (.slice (some ⟨g9, 0, none⟩) (Y ++ [(⟨sN a j, none, 0, none, 0, none, 0, some ⟨W5.heap.size + 1, 0, none⟩, 1, []⟩ : Sv)]).length k9), .int .i64 0] G C3 (Y ++ [⟨sN a j, none, 0, none, 0, none, 0, some ⟨W5.heap.size + 1, 0, none⟩, 1, []⟩]) (.slice ga a gc) (.slice (some ⟨gC, 0, none⟩) m cc) (.slice (some ⟨g9, 0, none⟩) (Y ++ [(⟨sN a j, none, 0, none, 0, none, 0, some ⟨W5.heap.size + 1, 0, none⟩, 1, []⟩ : Sv)]).length k9)) := by rw [show (Y ++ [(⟨sN a j, none, 0, none, 0, none, 0, some ⟨W5.heap.size + 1, 0, none⟩, 1, []⟩ : Sv)]).length = Y.length + 1 by simp]; exact hI9
                  clear hI8 hI9 u8 uz8 o9 gr9 at9 hI5 hI6h HPh BPh h7o
                  go_roundg (gk - 1)
                  case measure => go_light; omega
                  case rel => exact ⟨j + 1, o8, _, _, k9, by omega, by go_num, hm9, hl9, hJ9⟩
              · go_simp
                refine hK.out _ _ trivial (fun hHeld => ?_)
                clear hK K
                (try simp only [Act.put, List.setIfInBounds_toArray, List.set_cons_zero, List.set_cons_succ])
                refine wpAnyH_ready (rs := [3]) (by kernel_rfl) (by simp) ?_
                refine (AllReadyH.cons (o := { dst := some 86, op := Op.buildSlice 71 1 #[(0, Operand.tmp 85)], type := 71, pos := "outright.go:169", after := #[{ on := 2, ground := Ground.data }], guard := none }) rfl (fun K hK => ?_) AllReadyH.nil)
                go_simp
                refine hK.out _ _ trivial (fun hHeld => ?_)
                clear hK K
                (try simp only [Act.put, List.setIfInBounds_toArray, List.set_cons_zero, List.set_cons_succ])
                refine wpAnyH_ready (rs := [4]) (by kernel_rfl) (by simp) ?_
                refine (AllReadyH.cons (o := { dst := some 87, op := Op.convert 71 9 (Operand.tmp 86), type := 9, pos := "outright.go:169", after := #[{ on := 3, ground := Ground.data }], guard := none }) rfl (fun K hK => ?_) AllReadyH.nil)
                go_simp
                refine hK.out _ _ trivial (fun hHeld => ?_)
                clear hK K
                (try simp only [Act.put, List.setIfInBounds_toArray, List.set_cons_zero, List.set_cons_succ])
                refine tkY 5 ?_
                refine tkY 9 ?_
                refine wpAnyH_ready (rs := [11]) (by kernel_rfl) (by simp) ?_
                refine (AllReadyH.cons (o := { dst := none, op := Op.store 51 (Operand.tmp 15) (Operand.tmp 92), type := 0, pos := "outright.go:169", after := #[{ on := 10, ground := Ground.data }, { on := 9, ground := Ground.data }, { on := 0, ground := Ground.phase }, { on := 1, ground := Ground.phase }, { on := 2, ground := Ground.phase }, { on := 3, ground := Ground.phase }, { on := 4, ground := Ground.phase }, { on := 5, ground := Ground.phase }, { on := 6, ground := Ground.phase }, { on := 7, ground := Ground.phase }, { on := 8, ground := Ground.phase }, { on := 9, ground := Ground.phase }, { on := 10, ground := Ground.phase }], guard := none }) rfl (fun K hK => ?_) AllReadyH.nil)
                go_simp
                refine hK.out _ _ trivial (fun hHeld => ?_)
                clear hK K
                (try simp only [Act.put, List.setIfInBounds_toArray, List.set_cons_zero, List.set_cons_succ])
                refine wpAnyH_done (by kernel_rfl) ?_ _
                refine NoPanic.normal ?_
                have HP : Hid (Has ((wr.alloc (.cells #[.string ((⟨#[115]⟩ : ByteArray) ++ ⟨#[bx]⟩), .int .i64 (j : Int), .int .u64 gr, .slice none 0 0, .slice none 0 0, .slice none 0 0, .slice none 0 0] 51)).alloc (.cells #[.int .u8 (97 + (j : Int))] 5)).drew wr.heap.size #[.string ((⟨#[115]⟩ : ByteArray) ++ ⟨#[bx]⟩), .int .i64 (j : Int), .int .u64 gr, .slice none 0 0, .slice none 0 0, .slice none 0 0, .slice none 0 0]) := ((Has.new wr _ _ rfl).alloc _).drew
                have BP : Hid (Below wr.heap.size wr ((wr.alloc (.cells #[.string ((⟨#[115]⟩ : ByteArray) ++ ⟨#[bx]⟩), .int .i64 (j : Int), .int .u64 gr, .slice none 0 0, .slice none 0 0, .slice none 0 0, .slice none 0 0] 51)).alloc (.cells #[.int .u8 (97 + (j : Int))] 5)).drew) := belA.drew
                clear hcA hcB hcC hHeld hw1 hw2 hw3
                generalize ((wr.alloc (.cells #[.string ((⟨#[115]⟩ : ByteArray) ++ ⟨#[bx]⟩), .int .i64 (j : Int), .int .u64 gr, .slice none 0 0, .slice none 0 0, .slice none 0 0, .slice none 0 0] 51)).alloc (.cells #[.int .u8 (97 + (j : Int))] 5)).drew = W5 at *
                have s0 := HP.out.1
                have s0b : wr.heap.size < W5.heap.size + 1 := by omega
                have c6 : W5.cell? ⟨wr.heap.size, 6, none⟩ = some (.slice none 0 0) := HP.out.2.1 6
                have f6 := HP.out.2.2 6
                have j1 : (0 : Int) ≤ (j : Int) + 1 := by omega
                have j2 : (0 : Int) < (a : Int) := by omega
                go_upto_region 25 with fail
                clear c6 f6
                have sz5 := BP.out.size
                have HN := (Has.new (W5.setCell ⟨wr.heap.size, 6, none⟩ (.slice (some ⟨W5.heap.size + 1, 0, none⟩) 1 1)) #[.int .i64 2, .int .i32 1, .string ⟨#[]⟩, .int .i64 0, .int .i64 0] 55 (b := W5.heap.size) (by simp [World.setCell])).alloc (.cells #[.int .i64 (((j : Int) + 1) % (a : Int)), .slice (some ⟨W5.heap.size, 0, none⟩) 1 1] 58)
                have HX := Has.new ((W5.setCell ⟨wr.heap.size, 6, none⟩ (.slice (some ⟨W5.heap.size + 1, 0, none⟩) 1 1)).alloc (.cells #[.int .i64 2, .int .i32 1, .string ⟨#[]⟩, .int .i64 0, .int .i64 0] 55)) #[.int .i64 (((j : Int) + 1) % (a : Int)), .slice (some ⟨W5.heap.size, 0, none⟩) 1 1] 58 (b := W5.heap.size + 1) (by simp [World.setCell])
                have HP2 := ((HP.out.set 6 (by simp) (.slice (some ⟨W5.heap.size + 1, 0, none⟩) 1 1)).alloc (.cells #[.int .i64 2, .int .i32 1, .string ⟨#[]⟩, .int .i64 0, .int .i64 0] 55)).alloc (.cells #[.int .i64 (((j : Int) + 1) % (a : Int)), .slice (some ⟨W5.heap.size, 0, none⟩) 1 1] 58)
                simp only [List.setIfInBounds_toArray, List.set_cons_succ, List.set_cons_zero] at HP2
                have BP1 := BP.out.setCell (p := ⟨wr.heap.size, 6, none⟩) (by show wr.heap.size ≤ wr.heap.size; omega) (.slice (some ⟨W5.heap.size + 1, 0, none⟩) 1 1)
                have BP2 := (BP1.alloc BP1.size (.cells #[.int .i64 2, .int .i32 1, .string ⟨#[]⟩, .int .i64 0, .int .i64 0] 55)).alloc (by have := BP1.size; simp; omega) (.cells #[.int .i64 (((j : Int) + 1) % (a : Int)), .slice (some ⟨W5.heap.size, 0, none⟩) 1 1] 58)
                clear BP1
                generalize (((W5.setCell ⟨wr.heap.size, 6, none⟩ (.slice (some ⟨W5.heap.size + 1, 0, none⟩) 1 1)).alloc (.cells #[.int .i64 2, .int .i32 1, .string ⟨#[]⟩, .int .i64 0, .int .i64 0] 55)).alloc (.cells #[.int .i64 (((j : Int) + 1) % (a : Int)), .slice (some ⟨W5.heap.size, 0, none⟩) 1 1] 58)) = W6 at *
                have hI6 := hI5.out.below BP2
                have hI7 := hI6.below (bel1 (.cells #[.string ((⟨#[115]⟩ : ByteArray) ++ ⟨#[bx]⟩), .int .i64 (j : Int), .int .u64 gr, .slice none 0 0, .slice none 0 0, .slice none 0 0, .slice (some ⟨W5.heap.size + 1, 0, none⟩) 1 1] 51))
                have yl : Y.length ≤ 30 := by have := hYl.out; omega
                have hnx : Hid (Tns (fun b => wr.heap.size ≤ b) (W6.alloc (.cells #[.string ((⟨#[115]⟩ : ByteArray) ++ ⟨#[bx]⟩), .int .i64 (j : Int), .int .u64 gr, .slice none 0 0, .slice none 0 0, .slice none 0 0, .slice (some ⟨W5.heap.size + 1, 0, none⟩) 1 1] 51)) (.slice (some ⟨W5.heap.size + 1, 0, none⟩) 1 1) (sN a j).nexts) := by
                  have e : (((j : Int) + 1) % (a : Int)) = (((j + 1) % a : Nat) : Int) := by rw [Int.natCast_emod]; rfl
                  have h := next_rowS (S := fun b => wr.heap.size ≤ b) (HN.alloc (.cells #[.string ((⟨#[115]⟩ : ByteArray) ++ ⟨#[bx]⟩), .int .i64 (j : Int), .int .u64 gr, .slice none 0 0, .slice none 0 0, .slice none 0 0, .slice (some ⟨W5.heap.size + 1, 0, none⟩) 1 1] 51)) (HX.alloc (.cells #[.string ((⟨#[115]⟩ : ByteArray) ++ ⟨#[bx]⟩), .int .i64 (j : Int), .int .u64 gr, .slice none 0 0, .slice none 0 0, .slice none 0 0, .slice (some ⟨W5.heap.size + 1, 0, none⟩) 1 1] 51)) (by omega) (by omega)
                  rw [e] at h
                  exact h
                have HPh := hideG HP2
                have BPh := hideG BP2
                have hI6h := hideG hI6
                have h7o := hI7.rn.oS.own
                have h7s := hI7.hb.size
                have h6c := hideG (bel_after BP2 BP2.size (bel1 (.cells #[.string ((⟨#[115]⟩ : ByteArray) ++ ⟨#[bx]⟩), .int .i64 (j : Int), .int .u64 gr, .slice none 0 0, .slice none 0 0, .slice none 0 0, .slice (some ⟨W5.heap.size + 1, 0, none⟩) 1 1] 51)))
                clear HN HX BP BP2 HP hI7 s0 s0b
                obtain ⟨_, u6, uz6⟩ := id hI6.ub
                obtain ⟨_, p6, pz6⟩ := id HP2
                clear hI6 HP2
                go_wp2_with (at_builtin; (refine wpList_append_mine _ rfl _ _ 29 rfl w.heap.size 51 i51 _ 7 128 Tryz.underlying29 h51 h510 h511 h512 rfl (by decide) (.slice sa Y.length sc) Y.length (cellsF Sv.cs Y) rfl h7o ⟨W6.heap.size, 0, none⟩ 1 1 [.string ((⟨#[115]⟩ : ByteArray) ++ ⟨#[bx]⟩), .int .i64 (j : Int), .int .u64 gr, .slice none 0 0, .slice none 0 0, .slice none 0 0, .slice (some ⟨W5.heap.size + 1, 0, none⟩) 1 1] rfl rfl (cells_at (W := W6) rfl _ _) (all_one rfl) (by decide) (by unfold maxLen; omega) (by omega) h7s ?_); intro g9 k9 w9 o9 gr9 at9 _ hc9; rw [← sv_cs (n := a) hbx.out hgr.out] at o9; obtain ⟨o8, hI8⟩ := hI5.out.pushS h6c.out ⟨sN a j, none, 0, none, 0, none, 0, some ⟨W5.heap.size + 1, 0, none⟩, 1, []⟩ ⟨rfl, rfl, rfl, ⟨rfl, rfl⟩, ⟨rfl, rfl⟩, ⟨rfl, rfl⟩⟩ hnx.out gr9 at9 o9; clear u6 uz6 p6 pz6; obtain ⟨_, u8, uz8⟩ := id hI8.ub)
                have hI9 := hI8.setU 7 (by simp) (.slice (some ⟨g9, 0, none⟩) (Y.length + 1) k9)
                simp only [List.setIfInBounds_toArray, List.set_cons_succ, List.set_cons_zero] at hI9
                have hl9 : Hid ((Y ++ [(⟨sN a j, none, 0, none, 0, none, 0, some ⟨W5.heap.size + 1, 0, none⟩, 1, []⟩ : Sv)]).length = j + 1) := by show _ = _; rw [List.length_append, hYl.out]; rfl
                have hm9 : Hid ((Y ++ [(⟨sN a j, none, 0, none, 0, none, 0, some ⟨W5.heap.size + 1, 0, none⟩, 1, []⟩ : Sv)]).map (·.x) = (List.range (j + 1)).map (sN a)) := by show _ = _; rw [List.map_append, hY.out, List.range_succ, List.map_append]; rfl
                have hJ9 : Hid (Fi w o8 (w9.setCell ⟨w.heap.size + 1, 7, none⟩ (.slice (some ⟨g9, 0, none⟩) (Y.length + 1) k9)) #[.string ⟨#[]⟩, .slice none 0 0, .slice none 0 0, .slice none 0 0, .slice none 0 0, .slice none 0 0, .slice none 0 0, .slice none 0 0, .int .i64 0] #[.string ⟨#[114, 105, 110, 103]⟩, (.slice ga a gc), (.slice (some ⟨gC, 0, none⟩) m cc), .slice none 0 0, .slice none 0 0, .slice none 0 0, .slice none 0 0, (.slice (some ⟨g9, 0, none⟩) (Y ++ [(⟨sN a j, none, 0, none, 0, none, 0, some ⟨W5.heap.size + 1, 0, none⟩, 1, []⟩ : Sv)]).length k9), .int .i64 0] G C3 (Y ++ [⟨sN a j, none, 0, none, 0, none, 0, some ⟨W5.heap.size + 1, 0, none⟩, 1, []⟩]) (.slice ga a gc) (.slice (some ⟨gC, 0, none⟩) m cc) (.slice (some ⟨g9, 0, none⟩) (Y ++ [(⟨sN a j, none, 0, none, 0, none, 0, some ⟨W5.heap.size + 1, 0, none⟩, 1, []⟩ : Sv)]).length k9)) := by rw [show (Y ++ [(⟨sN a j, none, 0, none, 0, none, 0, some ⟨W5.heap.size + 1, 0, none⟩, 1, []⟩ : Sv)]).length = Y.length + 1 by simp]; exact hI9
                clear hI8 hI9 u8 uz8 o9 gr9 at9 hI5 hI6h HPh BPh h7o
                go_roundg (gk - 1)
                case measure => go_light; omega
                case rel => exact ⟨j + 1, o8, _, _, k9, by omega, by go_num, hm9, hl9, hJ9⟩
            · have q1 : ¬ (j : Int) < (a : Int) := by omega
              obtain rfl : j = a := by omega
              obtain ⟨_, r0, rz0⟩ := id hI5.out.res
              obtain ⟨_, u0, uz0⟩ := id hI5.out.ub
              have HF := set9 hI5.out.res rfl (.string ⟨#[114, 105, 110, 103]⟩) (.slice ga j gc) (.slice (some ⟨gC, 0, none⟩) m cc) (.slice none 0 0) (.slice none 0 0) (.slice none 0 0) (.slice none 0 0) (.slice sa Y.length sc) (.int .i64 0)
              have hO9 := only9 wr w.heap.size (.string ⟨#[114, 105, 110, 103]⟩) (.slice ga j gc) (.slice (some ⟨gC, 0, none⟩) m cc) (.slice none 0 0) (.slice none 0 0) (.slice none 0 0) (.slice none 0 0) (.slice sa Y.length sc) (.int .i64 0)
              have hYl2 := hYl.out
              have hrn := hI5.out.rn
              rw [hYl2] at hrn
              have hR9 := hrn.ky (ky_only hO9 hI5.out.t0) (Nat.le_refl _)
              have hB9 := bel_only hI5.out.hb hO9 (Nat.le_refl _) (fun q hq e => by omega)
              rw [hG.out] at hR9
              have hl9 := hl3.out
              have hfin : FinP j am V w (.returned (.agg #[.string ⟨#[114, 105, 110, 103]⟩, .slice ga j gc, .slice (some ⟨gC, 0, none⟩) m cc, .slice none 0 0, .slice none 0 0, .slice none 0 0, .slice none 0 0, .slice sa Y.length sc, .int .i64 0])) (((((((((wr.setCell ⟨w.heap.size, 0, none⟩ (.string ⟨#[114, 105, 110, 103]⟩)).setCell ⟨w.heap.size, 1, none⟩ (.slice ga j gc)).setCell ⟨w.heap.size, 2, none⟩ (.slice (some ⟨gC, 0, none⟩) m cc)).setCell ⟨w.heap.size, 3, none⟩ (.slice none 0 0)).setCell ⟨w.heap.size, 4, none⟩ (.slice none 0 0)).setCell ⟨w.heap.size, 5, none⟩ (.slice none 0 0)).setCell ⟨w.heap.size, 6, none⟩ (.slice none 0 0)).setCell ⟨w.heap.size, 7, none⟩ (.slice sa Y.length sc)).setCell ⟨w.heap.size, 8, none⟩ (.int .i64 0)) := by
                refine ⟨o5, C3, Y, ga, some ⟨gC, 0, none⟩, sa, gc, cc, sc, ?_, hB9, ?_, hY, hCs.out⟩
                · rw [hYl2, hl9]
                · show Rn _ _ _ _ _ _ _ _ _
                  rw [hl9]
                  exact hR9
              clear hI5 hI3 hl3 hG hGl hm hm1 hR9 hrn hB9 hO9 hYl2 hl9 hYl hY hCs hk5 tp
              have hfin := hideG hfin
              go_wp2_with fail
              obtain ⟨_, d2, _⟩ := id HF
              exact bodyPost_ret (v := (.agg #[.string ⟨#[114, 105, 110, 103]⟩, .slice ga j gc, .slice (some ⟨gC, 0, none⟩) m cc, .slice none 0 0, .slice none 0 0, .slice none 0 0, .slice none 0 0, .slice sa Y.length sc, .int .i64 0])) (by simp [results, Tryz.results6, go_sem, d2]) rfl hfin.out
end Go.Proofs.YtjfieclmagbfbaaGreatDoor
