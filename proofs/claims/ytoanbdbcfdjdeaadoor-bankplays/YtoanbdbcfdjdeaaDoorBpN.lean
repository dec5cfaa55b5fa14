import Derived.Test.YtoanbdbcfdjdeaaDoorBpM
namespace Go.Proofs.YtoanbdbcfdjdeaaDoor
open Go.RowKit
set_option linter.unusedVariables false
set_option linter.unusedSimpArgs false

theorem wrap8 (z : Int) (h : 0 ≤ z ∧ z ≤ 255) : IntKind.u8.wrap z = z := by
  unfold IntKind.wrap
  simp [IntKind.bits, IntKind.signed]
  omega

def mkB (i k : Nat) : Int := 31 * (i : Int) + (k : Int) % 7 + 3
theorem infoS : (Tryd.prog.info? 22).map (fun i => (i.zero, i.size, i.bytes)) = some (some (.slice none 0 0), 1, 24) := by kernel_rfl
theorem own_free {w : World} {base e size g n cap : Nat} {xs : List Value} (h : w.ownsRow base e size (.slice (some ⟨g, 0, none⟩) n cap) n xs) : ∀ j, w.frozen? ⟨g, j, none⟩ = false := by
  rcases h.2 with ⟨h0, _⟩ | ⟨g', cap', cur, h1, h2, h3, _⟩
  · cases h0
  · injection h1 with e1
    injection e1 with e1
    injection e1 with e1
    subst e1
    intro j
    simp [World.frozen?, h3]
theorem Ob.form {B : Nat} {w : World} {v : Value} {L : List Int} (h : Ob B w v L) : ∃ a c, v = .slice a L.length c := by
  rcases h.val with ⟨rfl, rfl⟩ | ⟨g, cap, rfl⟩
  · exact ⟨none, 0, rfl⟩
  · exact ⟨_, _, rfl⟩
theorem P2.readU {N : Nat} {U : Nat → Value} {C : Nat → List Int} {m : Nat → Int} {gA oA gM cM : Nat} {V : Nat → Value} {cnt : Nat → Nat} {w0 w : World} (h : P2 N U C m gA oA gM cM V cnt w0 w) (ap : Ap N U gA w0.heap.size) (hm : ∀ j, j < N → ∀ t, t < (C j).length → (C j)[t]? = some (mkB j t)) {j n uc k : Nat} {ua : Option Addr} (hj : j < N) (hU : U j = .slice ua n uc) (hk : k < (C j).length) : ∃ g, ua = some ⟨g, 0, none⟩ ∧ w.cell? ⟨g, k, none⟩ = some (.int .u8 (mkB j k)) := by
  obtain ⟨a, cap, e, -, -, -, h4⟩ := h.rd j hj
  obtain ⟨g, o, e2, -, -, hx⟩ := h4.resolve_left (by intro e; rw [e] at hk; simp at hk)
  subst e2
  have ho := ap.off j hj g o _ _ e
  subst ho
  rw [hU] at e
  injection e with e _ _
  refine ⟨g, e, ?_⟩
  have := hx k hk
  rw [Nat.zero_add] at this
  rw [this]
  have h2 := hm j hj k hk
  rw [List.getElem?_eq_getElem hk] at h2
  injection h2 with h2
  rw [h2]
theorem P2.formV {N : Nat} {U : Nat → Value} {C : Nat → List Int} {m : Nat → Int} {gA oA gM cM : Nat} {V : Nat → Value} {cnt : Nat → Nat} {w0 w : World} (h : P2 N U C m gA oA gM cM V cnt w0 w) {j : Nat} (hj : j < N) (hc : 0 < cnt j) : ∃ g vc, V j = .slice (some ⟨g, 0, none⟩) ((C j).length + cnt j) vc := by
  rcases (h.row j hj).val with ⟨_, e⟩ | ⟨g, cap, e⟩
  · have := congrArg List.length e
    simp at this
    omega
  · refine ⟨g, cap, ?_⟩
    rw [e, List.length_append, List.length_replicate]
theorem P2.cellV {N : Nat} {U : Nat → Value} {C : Nat → List Int} {m : Nat → Int} {gA oA gM cM : Nat} {V : Nat → Value} {cnt : Nat → Nat} {w0 w : World} (h : P2 N U C m gA oA gM cM V cnt w0 w) (hm : ∀ j, j < N → ∀ t, t < (C j).length → (C j)[t]? = some (mkB j t)) {j g l vc : Nat} (hj : j < N) (hV : V j = .slice (some ⟨g, 0, none⟩) l vc) :
    w.cell? ⟨gM, j, none⟩ = some (.slice (some ⟨g, 0, none⟩) l vc) ∧ (∀ k, k < (C j).length → w.cell? ⟨g, k, none⟩ = some (.int .u8 (mkB j k))) ∧ ∀ k, k < cnt j → w.cell? ⟨g, (C j).length + k, none⟩ = some (.int .u8 (m j)) := by
  have hr := h.row j hj
  rw [hV] at hr
  obtain ⟨-, -, -, -, -, hx⟩ := hr.cells
  refine ⟨?_, fun k hk => ?_, fun k hk => ?_⟩
  · rw [own_reads h.more (g := gM) rfl j (V j) (by simp [hj]), hV]
  · rw [(hx k (by rw [List.length_append]; omega)).1, List.getElem_append_left hk]
    have h2 := hm j hj k hk
    rw [List.getElem?_eq_getElem hk] at h2
    injection h2 with h2
    rw [h2]
  · rw [(hx ((C j).length + k) (by rw [List.length_append, List.length_replicate]; omega)).1, List.getElem_append_right (by omega), List.getElem_replicate]
set_option maxRecDepth 100000 in
set_option maxHeartbeats 2000000 in
theorem apart_any (N : Nat) (U : Nat → Value) (L : Nat → List Int) (gA oA capA : Nat) (w : World) (hN0 : 0 < N) (hN : N ≤ 8) (ap : Ap N U gA w.heap.size) (hA : ∀ j, j < N → w.cell? ⟨gA, oA + j, none⟩ = some (U j)) (hO : ∀ j, j < N → Ob 0 w (U j) (L j)) (hlen : ∀ j, j < N → (L j).length ≤ 4194304) :
    Calls Tryd.prog 12 #[.slice (some ⟨gA, oA, none⟩) N capA] w fun e w' => e = .returned (.bool true) ∧ Only (Pu N U) w w' := by
  obtain ⟨ti, hi, hx⟩ := Option.map_eq_some_iff.1 infoB
  have hi0 : ti.zero = some (.int .u8 0) := congrArg (·.1) hx
  have hi1 : ti.size = 1 := congrArg (·.2.1) hx
  have hi2 : ti.bytes = 1 := congrArg (·.2.2) hx
  obtain ⟨ts, hs, hy⟩ := Option.map_eq_some_iff.1 infoS
  have hs0 : ts.zero = some (.slice none 0 0) := congrArg (·.1) hy
  have hs1 : ts.size = 1 := congrArg (·.2.1) hy
  have hs2 : ts.bytes = 24 := congrArg (·.2.2) hy
  have p0 : Hid (P1 N U L gA oA w w) := ⟨Only.refl _ _, hA, hO⟩
  have hvn : ∀ j, j < N → ∃ a c, U j = .slice a (L j).length c := fun j hj => (hO j hj).form
  clear hA hO
  go_enter Tryd.func12, Tryd.ntmps12
  go_wp2_with fail
  go_loopw [3, 4] (fun v i wr => ∃ (k : Nat) (a : Option Addr) (c : Nat) (C : Nat → List Int), k ≤ N ∧ i = .int .i64 (k : Int) ∧ v = .slice a k c ∧ Hid (P1 N U C gA oA w wr) ∧ Hid (∀ j, j < N → (C j).length = (L j).length) ∧ Hid (∀ j, j < k → ∀ t, t < (L j).length → (C j)[t]? = some (mkB j t)) ∧ Hid (wr.ownsRow w.heap.size 22 1 (.slice a k c) k ((List.range k).map U))) (fun _ i _ => N - (intOf i).toNat)
  case atStart => exact ⟨0, none, 0, L, by omega, rfl, rfl, p0, fun _ _ => rfl, fun j hj => by omega, World.ownsRow_nil _ _ _ _⟩
  case round =>
    obtain ⟨i, a, c, C, hk, rfl, rfl, hp', hc', hm', ho'⟩ := hrel
    have hp := hp'.out
    have hc := hc'.out
    have hm := hm'.out
    have ow := ho'.out
    clear hp' hc' hm' ho'
    by_cases hlt : i < N
    case neg =>
      have t1 : ¬ (i : Int) < (N : Int) := by omega
      obtain rfl : i = N := by omega
      obtain ⟨gM, cM, e, -, hgM, -⟩ := own_block ow hN0
      injection e with e _ e3
      subst e
      subst e3
      have q0 : Hid (P2 i U C (fun j => 200 + (j : Int)) gA oA gM c U (fun _ => 0) w wr) := ⟨hp.only, hp.all, fun j hj => (hp.row j hj).by, fun j hj => by simpa using hp.row j hj, fun j hj q hq => ⟨.inl hq, fun e => by have := (ap.lt j hj q hq).1; omega⟩, ap.dis, hgM, ow⟩
      clear hp ow hgM
      go_wp2_with fail
      go_loopw [6] (fun s wr => ∃ (k : Nat) (V : Nat → Value), k ≤ 70 ∧ s = .int .i64 (k : Int) ∧ Hid (P2 i U C (fun j => 200 + (j : Int)) gA oA gM c V (fun _ => k) w wr)) (fun s _ => 70 - (intOf s).toNat)
      case atStart => exact ⟨0, U, by omega, rfl, q0⟩
      case round =>
        obtain ⟨k, V, hk7, rfl, hp'⟩ := hrel
        by_cases hk70 : k < 70
        case neg =>
          obtain rfl : k = 70 := by omega
          have t5 : ¬ ((70 : Nat) : Int) < 70 := by decide
          have hcl : ∀ j, j < i → (C j).length = (L j).length := hc
          have hmm : Hid (∀ j, j < i → ∀ t, t < (C j).length → (C j)[t]? = some (mkB j t)) := fun j hj t ht => hm j hj t (by rw [← hcl j hj]; exact ht)
          clear hm
          go_wp2_with fail
          go_loopw [8] (fun s wr => ∃ b : Nat, b ≤ i ∧ s = .int .i64 (b : Int) ∧ Hid (P2 i U C (fun j => 200 + (j : Int)) gA oA gM c V (fun _ => 70) w wr)) (fun s _ => i - (intOf s).toNat)
          case atStart => exact ⟨0, by omega, rfl, hp'⟩
          case round =>
            obtain ⟨b, hb, rfl, hq'⟩ := hrel
            have hq := hq'.out
            clear hq' hp'
            by_cases hbi : b < i
            case neg =>
              have t6 : ¬ (b : Int) < (i : Int) := by omega
              go_wp2_with fail
              go_ret
              exact ⟨rfl, hq.only⟩
            have t6 : (b : Int) < (i : Int) := by omega
            have t7 : (0 : Int) ≤ (b : Int) := by omega
            obtain ⟨ua, uc, hU⟩ := hvn b hbi
            obtain ⟨g2, vc, hV⟩ := hq.formV hbi (by decide : 0 < 70)
            have hcb := hcl b hbi
            have hlb := hlen b hbi
            rw [hcb] at hV
            have cU0 := hq.all b hbi
            rw [hU] at cU0
            have hq1 : Hid _ := hq
            clear hq
            go_wp2_with fail
            go_loopw [10] (fun s wr => ∃ k : Nat, k ≤ (L b).length ∧ s = .int .i64 (k : Int) ∧ Hid (P2 i U C (fun j => 200 + (j : Int)) gA oA gM c V (fun _ => 70) w wr)) (fun s _ => (L b).length - (intOf s).toNat)
            case atStart => exact ⟨0, by omega, rfl, hq1⟩
            case round =>
              obtain ⟨k, hk, rfl, hq'⟩ := hrel
              have hq := hq'.out
              clear hq' hq1 cU0
              by_cases hkl : k < (L b).length
              case neg =>
                have t8 : ¬ (k : Int) < ((L b).length : Int) := by omega
                have hq1 : Hid _ := hq
                clear hq
                go_wp2_with fail
                go_loopw [11] (fun s wr => ∃ k : Nat, k ≤ 70 ∧ s = .int .i64 (k : Int) ∧ Hid (P2 i U C (fun j => 200 + (j : Int)) gA oA gM c V (fun _ => 70) w wr)) (fun s _ => 70 - (intOf s).toNat)
                case atStart => exact ⟨0, by omega, rfl, hq1⟩
                case round =>
                  obtain ⟨k, hk, rfl, hq'⟩ := hrel
                  have hq := hq'.out
                  by_cases hk7 : k < 70
                  case neg =>
                    have t9 : ¬ (k : Int) < 70 := by omega
                    clear hq
                    go_wp2_with fail
                    go_roundw
                    case rel => exact ⟨b + 1, by omega, by go_num, hq'⟩
                    case measure => simp [intOf]; omega
                  have t9 : (k : Int) < 70 := by omega
                  obtain ⟨cV, -, c2⟩ := hq.cellV hmm.out hbi hV
                  have c3 := c2 k hk7
                  rw [hcb] at c3
                  have t10 : (0 : Int) ≤ ((L b).length : Int) + (k : Int) := by omega
                  have t11 : ((L b).length : Int) + (k : Int) < (((L b).length + 70 : Nat) : Int) := by omega
                  have en : (((L b).length : Int) + (k : Int)).toNat = (L b).length + k := by omega
                  clear hq c2
                  go_wp2_with fail
                  go_roundw
                  case rel => exact ⟨k + 1, by omega, by go_num, hq'⟩
                  case measure => simp [intOf]; omega
              have t8 : (k : Int) < ((L b).length : Int) := by omega
              have t9 : (0 : Int) ≤ (k : Int) := by omega
              obtain ⟨g, rfl, cg⟩ := hq.readU ap hmm.out hbi hU (by rw [hcb]; exact hkl)
              have cU := hq.all b hbi
              rw [hU] at cU
              obtain ⟨cV, c1, -⟩ := hq.cellV hmm.out hbi hV
              have c2 := c1 k (by rw [hcb]; exact hkl)
              clear c1
              unfold mkB at cg c2
              have t10 : (k : Int) < (((L b).length + 70 : Nat) : Int) := by omega
              have t12 : (k : Int) < ((L b).length : Int) + 70 := by omega
              have x1 : IntKind.i64.wrap (31 * (b : Int)) = 31 * (b : Int) := wrap64 _ (by omega)
              have x2 : IntKind.i64.wrap (31 * (b : Int) + (k : Int) % 7) = 31 * (b : Int) + (k : Int) % 7 := wrap64 _ (by omega)
              have x3 : IntKind.i64.wrap (31 * (b : Int) + (k : Int) % 7 + 3) = 31 * (b : Int) + (k : Int) % 7 + 3 := wrap64 _ (by omega)
              have x4 : IntKind.u8.wrap (31 * (b : Int) + (k : Int) % 7 + 3) = 31 * (b : Int) + (k : Int) % 7 + 3 := wrap8 _ (by omega)
              have x5 : Int.tmod (k : Int) 7 = (k : Int) % 7 := Int.tmod_eq_emod_of_nonneg (by omega)
              have x6 : IntKind.i64.wrap ((k : Int) % 7) = (k : Int) % 7 := wrap64 _ (by omega)
              have hqd := hq.below ap ((Below.refl _ _).drew)
              clear hq
              go_upto_region 24 with fail
              refine wp_region_noPanic ?_
              refine wp_region_held_drew (S := fun w' => w'.cell? ⟨gA, oA + b, none⟩ = some (.slice (some ⟨g, 0, none⟩) (L b).length uc) ∧ w'.cell? ⟨g, k, none⟩ = some (.int .u8 (31 * (b : Int) + (k : Int) % 7 + 3)) ∧ w'.cell? ⟨gM, b, none⟩ = some (.slice (some ⟨g2, 0, none⟩) ((L b).length + 70) vc) ∧ w'.cell? ⟨g2, k, none⟩ = some (.int .u8 (31 * (b : Int) + (k : Int) % 7 + 3))) (by kernel_rfl) ?_ (fun hHeld => ?_)
              · (try dsimp only)
                exact ⟨cU, cg, cV, c2⟩
              refine wpAnyH_take (i := 0) (oi := { dst := some 85, op := Op.move (Operand.tmp 0), type := 32, pos := "law.go:127", after := #[], guard := none }) (v := ?_) rfl (by kernel_rfl) (by kernel_rfl) (by kernel_rfl) (fun _ _ _ h => h) (Or.inl ⟨by rfl, ?_⟩) (by assumption) ?_
              rotate_left
              · intro wz hSz; (try dsimp only at hSz); go_simp; all_goals (with_reducible rfl)
              (try simp only [Act.put, List.setIfInBounds_toArray, List.set_cons_zero, List.set_cons_succ])
              refine wpAnyH_take (i := 1) (oi := { dst := some 86, op := Op.move (Operand.tmp 8), type := 3, pos := "law.go:127", after := #[], guard := none }) (v := ?_) rfl (by kernel_rfl) (by kernel_rfl) (by kernel_rfl) (fun _ _ _ h => h) (Or.inl ⟨by rfl, ?_⟩) (by assumption) ?_
              rotate_left
              · intro wz hSz; (try dsimp only at hSz); go_simp; all_goals (with_reducible rfl)
              (try simp only [Act.put, List.setIfInBounds_toArray, List.set_cons_zero, List.set_cons_succ])
              refine wpAnyH_take (i := 2) (oi := { dst := some 87, op := Op.indexAddr 32 (Operand.tmp 85) (Operand.tmp 86), type := 0, pos := "law.go:127", after := #[{ on := 0, ground := Ground.data }, { on := 1, ground := Ground.data }], guard := none }) (v := ?_) rfl (by kernel_rfl) (by kernel_rfl) (by kernel_rfl) (fun _ _ _ h => h) (Or.inl ⟨by rfl, ?_⟩) (by assumption) ?_
              rotate_left
              · intro wz hSz; (try dsimp only at hSz); go_simp; all_goals (with_reducible rfl)
              (try simp only [Act.put, List.setIfInBounds_toArray, List.set_cons_zero, List.set_cons_succ])
              refine wpAnyH_take (i := 3) (oi := { dst := some 88, op := Op.load 22 (Operand.tmp 87), type := 22, pos := "law.go:127", after := #[{ on := 2, ground := Ground.data }], guard := none }) (v := ?_) rfl (by kernel_rfl) (by kernel_rfl) (by kernel_rfl) (fun _ _ _ h => h) (Or.inl ⟨by rfl, ?_⟩) (by assumption) ?_
              rotate_left
              · intro wz hSz; (try dsimp only at hSz); go_simp; all_goals (with_reducible rfl)
              (try simp only [Act.put, List.setIfInBounds_toArray, List.set_cons_zero, List.set_cons_succ])
              refine wpAnyH_take (i := 4) (oi := { dst := some 89, op := Op.move (Operand.tmp 10), type := 3, pos := "law.go:127", after := #[], guard := none }) (v := ?_) rfl (by kernel_rfl) (by kernel_rfl) (by kernel_rfl) (fun _ _ _ h => h) (Or.inl ⟨by rfl, ?_⟩) (by assumption) ?_
              rotate_left
              · intro wz hSz; (try dsimp only at hSz); go_simp; all_goals (with_reducible rfl)
              (try simp only [Act.put, List.setIfInBounds_toArray, List.set_cons_zero, List.set_cons_succ])
              refine wpAnyH_take (i := 5) (oi := { dst := some 90, op := Op.indexAddr 22 (Operand.tmp 88) (Operand.tmp 89), type := 0, pos := "law.go:127", after := #[{ on := 3, ground := Ground.data }, { on := 4, ground := Ground.data }], guard := none }) (v := ?_) rfl (by kernel_rfl) (by kernel_rfl) (by kernel_rfl) (fun _ _ _ h => h) (Or.inl ⟨by rfl, ?_⟩) (by assumption) ?_
              rotate_left
              · intro wz hSz; (try dsimp only at hSz); go_simp; all_goals (with_reducible rfl)
              (try simp only [Act.put, List.setIfInBounds_toArray, List.set_cons_zero, List.set_cons_succ])
              refine wpAnyH_take (i := 6) (oi := { dst := some 91, op := Op.load 5 (Operand.tmp 90), type := 5, pos := "law.go:127", after := #[{ on := 5, ground := Ground.data }], guard := none }) (v := ?_) rfl (by kernel_rfl) (by kernel_rfl) (by kernel_rfl) (fun _ _ _ h => h) (Or.inl ⟨by rfl, ?_⟩) (by assumption) ?_
              rotate_left
              · intro wz hSz; (try dsimp only at hSz); go_simp; all_goals (with_reducible rfl)
              (try simp only [Act.put, List.setIfInBounds_toArray, List.set_cons_zero, List.set_cons_succ])
              refine wpAnyH_take (i := 7) (oi := { dst := some 92, op := Op.move (Operand.tmp 8), type := 3, pos := "law.go:127", after := #[], guard := none }) (v := ?_) rfl (by kernel_rfl) (by kernel_rfl) (by kernel_rfl) (fun _ _ _ h => h) (Or.inl ⟨by rfl, ?_⟩) (by assumption) ?_
              rotate_left
              · intro wz hSz; (try dsimp only at hSz); go_simp; all_goals (with_reducible rfl)
              (try simp only [Act.put, List.setIfInBounds_toArray, List.set_cons_zero, List.set_cons_succ])
              refine wpAnyH_take (i := 8) (oi := { dst := some 93, op := Op.binOp BinOp.mul 3 (Operand.const (Value.int IntKind.i64 31)) (Operand.tmp 92) 3, type := 3, pos := "law.go:127", after := #[{ on := 7, ground := Ground.data }], guard := none }) (v := ?_) rfl (by kernel_rfl) (by kernel_rfl) (by kernel_rfl) (fun _ _ _ h => h) (Or.inl ⟨by rfl, ?_⟩) (by assumption) ?_
              rotate_left
              · intro wz hSz; (try dsimp only at hSz); go_simp; all_goals (with_reducible rfl)
              (try simp only [Act.put, List.setIfInBounds_toArray, List.set_cons_zero, List.set_cons_succ])
              refine wpAnyH_take (i := 9) (oi := { dst := some 94, op := Op.move (Operand.tmp 10), type := 3, pos := "law.go:127", after := #[], guard := none }) (v := ?_) rfl (by kernel_rfl) (by kernel_rfl) (by kernel_rfl) (fun _ _ _ h => h) (Or.inl ⟨by rfl, ?_⟩) (by assumption) ?_
              rotate_left
              · intro wz hSz; (try dsimp only at hSz); go_simp; all_goals (with_reducible rfl)
              (try simp only [Act.put, List.setIfInBounds_toArray, List.set_cons_zero, List.set_cons_succ])
              refine wpAnyH_take (i := 10) (oi := { dst := some 95, op := Op.binOp BinOp.rem 3 (Operand.tmp 94) (Operand.const (Value.int IntKind.i64 7)) 3, type := 3, pos := "law.go:127", after := #[{ on := 9, ground := Ground.data }], guard := none }) (v := ?_) rfl (by kernel_rfl) (by kernel_rfl) (by kernel_rfl) (fun _ _ _ h => h) (Or.inl ⟨by rfl, ?_⟩) (by assumption) ?_
              rotate_left
              · intro wz hSz; (try dsimp only at hSz); go_simp; all_goals (with_reducible rfl)
              (try simp only [Act.put, List.setIfInBounds_toArray, List.set_cons_zero, List.set_cons_succ])
              refine wpAnyH_take (i := 11) (oi := { dst := some 96, op := Op.binOp BinOp.add 3 (Operand.tmp 93) (Operand.tmp 95) 3, type := 3, pos := "law.go:127", after := #[{ on := 8, ground := Ground.data }, { on := 10, ground := Ground.data }], guard := none }) (v := ?_) rfl (by kernel_rfl) (by kernel_rfl) (by kernel_rfl) (fun _ _ _ h => h) (Or.inl ⟨by rfl, ?_⟩) (by assumption) ?_
              rotate_left
              · intro wz hSz; (try dsimp only at hSz); go_simp; all_goals (with_reducible rfl)
              (try simp only [Act.put, List.setIfInBounds_toArray, List.set_cons_zero, List.set_cons_succ])
              refine wpAnyH_take (i := 12) (oi := { dst := some 97, op := Op.binOp BinOp.add 3 (Operand.tmp 96) (Operand.const (Value.int IntKind.i64 3)) 3, type := 3, pos := "law.go:127", after := #[{ on := 11, ground := Ground.data }], guard := none }) (v := ?_) rfl (by kernel_rfl) (by kernel_rfl) (by kernel_rfl) (fun _ _ _ h => h) (Or.inl ⟨by rfl, ?_⟩) (by assumption) ?_
              rotate_left
              · intro wz hSz; (try dsimp only at hSz); go_simp; all_goals (with_reducible rfl)
              (try simp only [Act.put, List.setIfInBounds_toArray, List.set_cons_zero, List.set_cons_succ])
              refine wpAnyH_take (i := 13) (oi := { dst := some 98, op := Op.convert 3 5 (Operand.tmp 97), type := 5, pos := "law.go:127", after := #[{ on := 12, ground := Ground.data }], guard := none }) (v := ?_) rfl (by kernel_rfl) (by kernel_rfl) (by kernel_rfl) (fun _ _ _ h => h) (Or.inl ⟨by rfl, ?_⟩) (by assumption) ?_
              rotate_left
              · intro wz hSz; (try dsimp only at hSz); go_simp; all_goals (with_reducible rfl)
              (try simp only [Act.put, List.setIfInBounds_toArray, List.set_cons_zero, List.set_cons_succ])
              refine wpAnyH_take (i := 14) (oi := { dst := some 99, op := Op.binOp BinOp.neq 5 (Operand.tmp 91) (Operand.tmp 98) 5, type := 4, pos := "law.go:127", after := #[{ on := 6, ground := Ground.data }, { on := 13, ground := Ground.data }], guard := none }) (v := ?_) rfl (by kernel_rfl) (by kernel_rfl) (by kernel_rfl) (fun _ _ _ h => h) (Or.inl ⟨by rfl, ?_⟩) (by assumption) ?_
              rotate_left
              · intro wz hSz; (try dsimp only at hSz); go_simp; all_goals (with_reducible rfl)
              (try simp only [Act.put, List.setIfInBounds_toArray, List.set_cons_zero, List.set_cons_succ])
              refine wpAnyH_take (i := 15) (oi := { dst := some 100, op := Op.move (Operand.tmp 99), type := 4, pos := "law.go:127", after := #[{ on := 14, ground := Ground.data }], guard := none }) (v := ?_) rfl (by kernel_rfl) (by kernel_rfl) (by kernel_rfl) (fun _ _ _ h => h) (Or.inl ⟨by rfl, ?_⟩) (by assumption) ?_
              rotate_left
              · intro wz hSz; (try dsimp only at hSz); go_simp; all_goals (with_reducible rfl)
              (try simp only [Act.put, List.setIfInBounds_toArray, List.set_cons_zero, List.set_cons_succ])
              refine wpAnyH_take (i := 16) (oi := { dst := some 101, op := Op.move (Operand.tmp 3), type := 32, pos := "law.go:127", after := #[{ on := 15, ground := Ground.guard }], guard := some (15, false) }) (v := ?_) rfl (by kernel_rfl) (by kernel_rfl) (by kernel_rfl) (fun _ _ _ h => h) (Or.inl ⟨by rfl, ?_⟩) (by assumption) ?_
              rotate_left
              · intro wz hSz; (try dsimp only at hSz); go_simp; all_goals (with_reducible rfl)
              (try simp only [Act.put, List.setIfInBounds_toArray, List.set_cons_zero, List.set_cons_succ])
              refine wpAnyH_take (i := 17) (oi := { dst := some 102, op := Op.move (Operand.tmp 8), type := 3, pos := "law.go:127", after := #[{ on := 15, ground := Ground.guard }], guard := some (15, false) }) (v := ?_) rfl (by kernel_rfl) (by kernel_rfl) (by kernel_rfl) (fun _ _ _ h => h) (Or.inl ⟨by rfl, ?_⟩) (by assumption) ?_
              rotate_left
              · intro wz hSz; (try dsimp only at hSz); go_simp; all_goals (with_reducible rfl)
              (try simp only [Act.put, List.setIfInBounds_toArray, List.set_cons_zero, List.set_cons_succ])
              refine wpAnyH_take (i := 18) (oi := { dst := some 103, op := Op.indexAddr 32 (Operand.tmp 101) (Operand.tmp 102), type := 0, pos := "law.go:127", after := #[{ on := 16, ground := Ground.data }, { on := 17, ground := Ground.data }, { on := 15, ground := Ground.guard }], guard := some (15, false) }) (v := ?_) rfl (by kernel_rfl) (by kernel_rfl) (by kernel_rfl) (fun _ _ _ h => h) (Or.inl ⟨by rfl, ?_⟩) (by assumption) ?_
              rotate_left
              · intro wz hSz; (try dsimp only at hSz); go_simp; all_goals (with_reducible rfl)
              (try simp only [Act.put, List.setIfInBounds_toArray, List.set_cons_zero, List.set_cons_succ])
              refine wpAnyH_take (i := 19) (oi := { dst := some 104, op := Op.load 22 (Operand.tmp 103), type := 22, pos := "law.go:127", after := #[{ on := 18, ground := Ground.data }, { on := 15, ground := Ground.guard }], guard := some (15, false) }) (v := ?_) rfl (by kernel_rfl) (by kernel_rfl) (by kernel_rfl) (fun _ _ _ h => h) (Or.inl ⟨by rfl, ?_⟩) (by assumption) ?_
              rotate_left
              · intro wz hSz; (try dsimp only at hSz); go_simp; all_goals (with_reducible rfl)
              (try simp only [Act.put, List.setIfInBounds_toArray, List.set_cons_zero, List.set_cons_succ])
              refine wpAnyH_take (i := 20) (oi := { dst := some 105, op := Op.move (Operand.tmp 10), type := 3, pos := "law.go:127", after := #[{ on := 15, ground := Ground.guard }], guard := some (15, false) }) (v := ?_) rfl (by kernel_rfl) (by kernel_rfl) (by kernel_rfl) (fun _ _ _ h => h) (Or.inl ⟨by rfl, ?_⟩) (by assumption) ?_
              rotate_left
              · intro wz hSz; (try dsimp only at hSz); go_simp; all_goals (with_reducible rfl)
              (try simp only [Act.put, List.setIfInBounds_toArray, List.set_cons_zero, List.set_cons_succ])
              refine wpAnyH_take (i := 21) (oi := { dst := some 106, op := Op.indexAddr 22 (Operand.tmp 104) (Operand.tmp 105), type := 0, pos := "law.go:127", after := #[{ on := 19, ground := Ground.data }, { on := 20, ground := Ground.data }, { on := 15, ground := Ground.guard }], guard := some (15, false) }) (v := ?_) rfl (by kernel_rfl) (by kernel_rfl) (by kernel_rfl) (fun _ _ _ h => h) (Or.inl ⟨by rfl, ?_⟩) (by assumption) ?_
              rotate_left
              · intro wz hSz; (try dsimp only at hSz); go_simp; all_goals (with_reducible rfl)
              (try simp only [Act.put, List.setIfInBounds_toArray, List.set_cons_zero, List.set_cons_succ])
              refine wpAnyH_take (i := 22) (oi := { dst := some 107, op := Op.load 5 (Operand.tmp 106), type := 5, pos := "law.go:127", after := #[{ on := 21, ground := Ground.data }, { on := 15, ground := Ground.guard }], guard := some (15, false) }) (v := ?_) rfl (by kernel_rfl) (by kernel_rfl) (by kernel_rfl) (fun _ _ _ h => h) (Or.inl ⟨by rfl, ?_⟩) (by assumption) ?_
              rotate_left
              · intro wz hSz; (try dsimp only at hSz); go_simp; all_goals (with_reducible rfl)
              (try simp only [Act.put, List.setIfInBounds_toArray, List.set_cons_zero, List.set_cons_succ])
              refine wpAnyH_take (i := 23) (oi := { dst := some 108, op := Op.move (Operand.tmp 0), type := 32, pos := "law.go:127", after := #[{ on := 15, ground := Ground.guard }], guard := some (15, false) }) (v := ?_) rfl (by kernel_rfl) (by kernel_rfl) (by kernel_rfl) (fun _ _ _ h => h) (Or.inl ⟨by rfl, ?_⟩) (by assumption) ?_
              rotate_left
              · intro wz hSz; (try dsimp only at hSz); go_simp; all_goals (with_reducible rfl)
              (try simp only [Act.put, List.setIfInBounds_toArray, List.set_cons_zero, List.set_cons_succ])
              refine wpAnyH_take (i := 24) (oi := { dst := some 109, op := Op.move (Operand.tmp 8), type := 3, pos := "law.go:127", after := #[{ on := 15, ground := Ground.guard }], guard := some (15, false) }) (v := ?_) rfl (by kernel_rfl) (by kernel_rfl) (by kernel_rfl) (fun _ _ _ h => h) (Or.inl ⟨by rfl, ?_⟩) (by assumption) ?_
              rotate_left
              · intro wz hSz; (try dsimp only at hSz); go_simp; all_goals (with_reducible rfl)
              (try simp only [Act.put, List.setIfInBounds_toArray, List.set_cons_zero, List.set_cons_succ])
              refine wpAnyH_take (i := 25) (oi := { dst := some 110, op := Op.indexAddr 32 (Operand.tmp 108) (Operand.tmp 109), type := 0, pos := "law.go:127", after := #[{ on := 23, ground := Ground.data }, { on := 24, ground := Ground.data }, { on := 15, ground := Ground.guard }], guard := some (15, false) }) (v := ?_) rfl (by kernel_rfl) (by kernel_rfl) (by kernel_rfl) (fun _ _ _ h => h) (Or.inl ⟨by rfl, ?_⟩) (by assumption) ?_
              rotate_left
              · intro wz hSz; (try dsimp only at hSz); go_simp; all_goals (with_reducible rfl)
              (try simp only [Act.put, List.setIfInBounds_toArray, List.set_cons_zero, List.set_cons_succ])
              refine wpAnyH_take (i := 26) (oi := { dst := some 111, op := Op.load 22 (Operand.tmp 110), type := 22, pos := "law.go:127", after := #[{ on := 25, ground := Ground.data }, { on := 15, ground := Ground.guard }], guard := some (15, false) }) (v := ?_) rfl (by kernel_rfl) (by kernel_rfl) (by kernel_rfl) (fun _ _ _ h => h) (Or.inl ⟨by rfl, ?_⟩) (by assumption) ?_
              rotate_left
              · intro wz hSz; (try dsimp only at hSz); go_simp; all_goals (with_reducible rfl)
              (try simp only [Act.put, List.setIfInBounds_toArray, List.set_cons_zero, List.set_cons_succ])
              refine wpAnyH_take (i := 27) (oi := { dst := some 112, op := Op.move (Operand.tmp 10), type := 3, pos := "law.go:127", after := #[{ on := 15, ground := Ground.guard }], guard := some (15, false) }) (v := ?_) rfl (by kernel_rfl) (by kernel_rfl) (by kernel_rfl) (fun _ _ _ h => h) (Or.inl ⟨by rfl, ?_⟩) (by assumption) ?_
              rotate_left
              · intro wz hSz; (try dsimp only at hSz); go_simp; all_goals (with_reducible rfl)
              (try simp only [Act.put, List.setIfInBounds_toArray, List.set_cons_zero, List.set_cons_succ])
              refine wpAnyH_take (i := 28) (oi := { dst := some 113, op := Op.indexAddr 22 (Operand.tmp 111) (Operand.tmp 112), type := 0, pos := "law.go:127", after := #[{ on := 26, ground := Ground.data }, { on := 27, ground := Ground.data }, { on := 15, ground := Ground.guard }], guard := some (15, false) }) (v := ?_) rfl (by kernel_rfl) (by kernel_rfl) (by kernel_rfl) (fun _ _ _ h => h) (Or.inl ⟨by rfl, ?_⟩) (by assumption) ?_
              rotate_left
              · intro wz hSz; (try dsimp only at hSz); go_simp; all_goals (with_reducible rfl)
              (try simp only [Act.put, List.setIfInBounds_toArray, List.set_cons_zero, List.set_cons_succ])
              refine wpAnyH_take (i := 29) (oi := { dst := some 114, op := Op.load 5 (Operand.tmp 113), type := 5, pos := "law.go:127", after := #[{ on := 28, ground := Ground.data }, { on := 15, ground := Ground.guard }], guard := some (15, false) }) (v := ?_) rfl (by kernel_rfl) (by kernel_rfl) (by kernel_rfl) (fun _ _ _ h => h) (Or.inl ⟨by rfl, ?_⟩) (by assumption) ?_
              rotate_left
              · intro wz hSz; (try dsimp only at hSz); go_simp; all_goals (with_reducible rfl)
              (try simp only [Act.put, List.setIfInBounds_toArray, List.set_cons_zero, List.set_cons_succ])
              refine wpAnyH_take (i := 30) (oi := { dst := some 115, op := Op.binOp BinOp.neq 5 (Operand.tmp 107) (Operand.tmp 114) 5, type := 4, pos := "law.go:127", after := #[{ on := 22, ground := Ground.data }, { on := 29, ground := Ground.data }, { on := 15, ground := Ground.guard }], guard := some (15, false) }) (v := ?_) rfl (by kernel_rfl) (by kernel_rfl) (by kernel_rfl) (fun _ _ _ h => h) (Or.inl ⟨by rfl, ?_⟩) (by assumption) ?_
              rotate_left
              · intro wz hSz; (try dsimp only at hSz); go_simp; all_goals (with_reducible rfl)
              (try simp only [Act.put, List.setIfInBounds_toArray, List.set_cons_zero, List.set_cons_succ])
              refine wpAnyH_take (i := 31) (oi := { dst := some 116, op := Op.pick (Operand.tmp 100) (Operand.const (Value.bool true)) (Operand.tmp 115), type := 4, pos := "law.go:127", after := #[{ on := 15, ground := Ground.data }, { on := 30, ground := Ground.data }], guard := none }) (v := ?_) rfl (by kernel_rfl) (by kernel_rfl) (by kernel_rfl) (fun _ _ _ h => h) (Or.inl ⟨by rfl, ?_⟩) (by assumption) ?_
              rotate_left
              · intro wz hSz; (try dsimp only at hSz); go_simp; all_goals (with_reducible rfl)
              (try simp only [Act.put, List.setIfInBounds_toArray, List.set_cons_zero, List.set_cons_succ])
              refine wpAnyH_done (by kernel_rfl) ?_ _
              refine NoPanic.normal ?_
              go_wp2_with fail
              go_roundw
              case rel => exact ⟨k + 1, by omega, by go_num, hqd⟩
              case measure => simp [intOf]; omega
        have t5 : (k : Int) < 70 := by omega
        go_wp2_with fail
        go_loopw [7] (fun s wr => ∃ (b : Nat) (V : Nat → Value), b ≤ i ∧ s = .int .i64 (b : Int) ∧ Hid (P2 i U C (fun j => 200 + (j : Int)) gA oA gM c V (fun j => if j < b then k + 1 else k) w wr)) (fun s _ => i - (intOf s).toNat)
        case atStart => exact ⟨0, V, by omega, rfl, by simpa using hp'⟩
        case round =>
          obtain ⟨b, V, hb, rfl, hp2'⟩ := hrel
          have hp := hp2'.out
          clear hp2' hp'
          by_cases hbi : b < i
          case neg =>
            have t6 : ¬ (b : Int) < (i : Int) := by omega
            obtain rfl : b = i := by omega
            have hp3 : Hid (P2 b U C (fun j => 200 + (j : Int)) gA oA gM c V (fun _ => k + 1) w wr) := ⟨hp.only, hp.all, hp.rd, fun j hj => by have := hp.row j hj; rw [if_pos hj] at this; exact this, hp.vb, hp.vd, hp.mg, hp.more⟩
            clear hp
            go_wp2_with fail
            go_roundw
            case rel => exact ⟨k + 1, V, by omega, by go_num, hp3⟩
            case measure => simp [intOf]; omega
          have t6 : (b : Int) < (i : Int) := by omega
          have t7 : (0 : Int) ≤ (b : Int) := by omega
          obtain ⟨va, vc, hV⟩ := (hp.row b hbi).form
          have cV := own_reads hp.more (g := gM) rfl b (V b) (by simp [hbi])
          have hpa := hp.below ap (belN1 (o1 := .cells #[.int .u8 (200 + (b : Int))] 5))
          have hrow := hpa.row b hbi
          have hlb : (C b ++ List.replicate (if b < b then k + 1 else k) (200 + (b : Int))).length ≤ 4194404 := by
            have := hlen b hbi
            have := hc b hbi
            simp
            omega
          have gap := hpa
          rw [hV] at cV hrow
          have cm := (Has.new wr #[.int .u8 (200 + (b : Int))] 5 rfl).2.1 0
          have frM := own_free hpa.more
          have hgMl := (own_lt hpa.more gM rfl).2
          have hMne := fun q (hq : (V b).ownBlock = some q) => (hpa.vb b hbi q hq).2
          rw [hV] at hMne
          generalize hl : (C b ++ List.replicate (if b < b then k + 1 else k) (200 + (b : Int))).length = l at *
          have hl' : Hid ((C b ++ List.replicate (if b < b then k + 1 else k) (200 + (b : Int))).length = l) := hl
          clear hp hl
          go_wp2_with (at_builtin; (refine wpList_append_ob rfl _ _ rfl ti hi hi0 hi1 hi2 0 (.slice va l vc) (C b ++ List.replicate (if b < b then k + 1 else k) (200 + (b : Int))) rfl hrow (by have := hl'.out; omega) ⟨wr.heap.size, 0, none⟩ 1 (200 + (b : Int)) rfl cm ?_); intro g' cap' w' base p1 p2 p3 p4; rw [hl'.out] at p1 ⊢; have cM2 := (World.cell?_of_block (a := ⟨gM, b, none⟩) (p2.block gM hgMl (fun e => hMne gM e.symm rfl))).trans (own_reads hpa.more (g := gM) rfl b (V b) (by simp [hbi])); have fM2 := (World.frozen?_of_block (a := ⟨gM, b, none⟩) (p2.block gM hgMl (fun e => hMne gM e.symm rfl))).trans (frM b))
          go_roundw
          case rel =>
            have hl := hl'.out
            have hap := P2.app gap ap hbi hN0 (by rw [hl]; exact p1) (by omega) (by rw [hV]; exact p2) (by rw [hV]; exact p3) (by rw [hV]; exact p4)
            refine ⟨b + 1, upd V b (.slice (some ⟨g', 0, none⟩) (l + 1) cap'), by omega, by go_num, ?_⟩
            show P2 _ _ _ _ _ _ _ _ _ _ _ _
            have ec : (fun j => if j < b + 1 then k + 1 else k) = upd (fun j => if j < b then k + 1 else k) b ((fun j => if j < b then k + 1 else k) b + 1) := by
              funext j
              by_cases e : j = b
              · subst e; rw [upd_at]; simp
              · rw [upd_ne _ _ e]
                by_cases e2 : j < b
                · rw [if_pos e2, if_pos (by omega)]
                · rw [if_neg e2, if_neg (by omega)]
            rw [ec]
            rw [hl] at hap
            exact hap
          case measure => simp [intOf]; omega
    have t1 : (i : Int) < (N : Int) := by omega
    have t2 : (0 : Int) ≤ (i : Int) := by omega
    obtain ⟨ua, uc, hU⟩ := hvn i hlt
    go_wp2_with fail
    go_loopw [5] (fun s wr => ∃ (k : Nat) (C : Nat → List Int), k ≤ (L i).length ∧ s = .int .i64 (k : Int) ∧ Hid (P1 N U C gA oA w wr) ∧ Hid (∀ j, j < N → (C j).length = (L j).length) ∧ Hid (∀ j, j < i → ∀ t, t < (L j).length → (C j)[t]? = some (mkB j t)) ∧ Hid (∀ t, t < k → (C i)[t]? = some (mkB i t)) ∧ Hid (wr.ownsRow w.heap.size 22 1 (.slice a i c) i ((List.range i).map U))) (fun s _ => (L i).length - (intOf s).toNat)
    case atStart => exact ⟨0, C, by omega, rfl, hp, hc, hm, fun t ht => by omega, ow⟩
    case round =>
      obtain ⟨k, C, hk2, rfl, hp', hc', hm', hd', ho'⟩ := hrel
      have hp := hp'.out
      have hc := hc'.out
      have hm := hm'.out
      have hd := hd'.out
      have ow := ho'.out
      clear hp' hc' hm' hd' ho'
      have cU := hp.all i hlt
      rw [hU] at cU
      by_cases hkl : k < (L i).length
      case neg =>
        have t3 : ¬ (k : Int) < ((L i).length : Int) := by omega
        obtain rfl : k = (L i).length := by omega
        have ow1 := own_bel ow (belN1 (o1 := .cells #[.slice ua (L i).length uc] 22))
        have hsz : w.heap.size ≤ (wr.alloc (.cells #[.slice ua (L i).length uc] 22)).heap.size := Nat.le_trans hp.only.size (belN1).size
        go_wp2_with (at_builtin; (refine wpList_append_mine _ rfl _ _ 32 rfl w.heap.size 22 ts _ 1 24 Tryd.underlying32 hs hs0 hs1 hs2 rfl (by decide) (.slice a i c) i ((List.range i).map U) rfl ow1 ⟨wr.heap.size, 0, none⟩ 1 1 [.slice ua (L i).length uc] rfl rfl (cells_ten (W := wr) [.slice ua (L i).length uc] 22) (by intro u hu; simp at hu; subst hu; rfl) (by decide) (by unfold maxLen; omega) (by omega) hsz ?_); intro g' cap' w' p1 p2 p3 p4 p5)
        go_roundw
        case rel =>
          refine ⟨i + 1, some ⟨g', 0, none⟩, cap', C, by omega, by go_num, rfl, hp.mv ap (only_grown ((Only.refl _ wr).alloc _) p2 (fun q hq => .inl (own_lt ow1 q hq).1)), hc, fun j hj t ht => ?_, ?_⟩
          · by_cases e : j = i
            · subst e; exact hd t ht
            · exact hm j (by omega) t ht
          · show World.ownsRow _ _ _ _ _ _ _
            rw [List.range_succ, List.map_append, List.map_cons, List.map_nil, hU]
            exact p1
        case measure => simp [intOf]; omega
      have t3 : (k : Int) < ((L i).length : Int) := by omega
      have t4 : (0 : Int) ≤ (k : Int) := by omega
      obtain ⟨g, cap, hUg⟩ : ∃ g cap, U i = .slice (some ⟨g, 0, none⟩) (L i).length cap := by
        rcases (hp.row i hlt).val with ⟨e, e2⟩ | ⟨g, cap, e⟩
        · have := hc i hlt; rw [e2] at this; simp at this; omega
        · rw [hc i hlt] at e; exact ⟨g, cap, e⟩
      have hro := hp.row i hlt
      rw [hUg] at hro
      obtain ⟨-, -, hgl, -, -, hcl⟩ := hro.cells
      obtain ⟨cg, fz⟩ := hcl k (by rw [hc i hlt]; exact hkl)
      have eU := hU.symm.trans hUg
      injection eU with e1 _ e3
      subst e1
      subst e3
      clear hcl hro
      have hll := hlen i hlt
      have hli := hc i hlt
      go_wp2_with fail
      go_roundw
      case rel =>
        refine ⟨k + 1, upd C i ((C i).set k (mkB i k)), by omega, by go_num, hp.set ap hlt hUg hkl _, fun j hj => ?_, fun j hj t ht => ?_, fun t ht => ?_, ?_⟩
        · by_cases e : j = i
          · subst e; rw [upd_at, List.length_set]; exact hli
          · rw [upd_ne _ _ e]; exact hc j hj
        · rw [upd_ne _ _ (by omega)]; exact hm j hj t ht
        · rw [upd_at, List.getElem?_set]
          by_cases e : k = t
          · subst e; rw [if_pos rfl, if_pos (by omega)]
          · rw [if_neg e]; exact hd t (by omega)
        · refine own_keep ow (fun q hq => Below.heap_setCell _ _ _ _ (fun e => ?_))
          have h1 := (own_lt ow q hq).1
          have h2 := (ap.lt i hlt g (by rw [hUg]; rfl)).1
          have e' : q = g := e
          omega
      case measure => simp [intOf]; omega
end Go.Proofs.YtoanbdbcfdjdeaaDoor
