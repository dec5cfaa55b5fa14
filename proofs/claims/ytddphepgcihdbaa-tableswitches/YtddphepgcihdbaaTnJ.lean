import Derived.Lib.SliceRun
import Derived.Laws.MakeOwn
import Derived.Test.YtddphepgcihdbaaTeA
namespace Go.Proofs.Ytddphepgcihdbaa
open Go.RowKit
set_option linter.unusedVariables false
set_option linter.unusedSimpArgs false

theorem dk_len (x : Dk) : x.cs.length = 2 := rfl
theorem dk_cells {w : World} {L : List Dk} (h : ∀ x ∈ L, Fl 2 Rw.cs w x.rv x.rows) : ∀ u ∈ cellsF Dk.cs L, u.oneCell' = true := by
  intro u hu
  unfold cellsF at hu
  obtain ⟨x, hx, hu⟩ := List.mem_flatMap.1 hu
  obtain ⟨a, c, hv, _⟩ := (h x hx).any
  simp only [Dk.cs, List.mem_cons, List.not_mem_nil, or_false] at hu
  rcases hu with hu | hu
  · rw [hu]; rfl
  · rw [hu, hv]; rfl
set_option maxRecDepth 100000 in
set_option maxHeartbeats 2000000 in
theorem cloneD_any (L : List Dk) (va : Option Addr) (c : Nat) (w : World) (hb : L.length ≤ 1000000) (hF : Fl 2 Dk.cs w (.slice va L.length c) L) (h1 : ∀ u ∈ cellsF Dk.cs L, u.oneCell' = true) :
    Calls Try.prog 35 #[.slice va L.length c] w fun e w' => (∃ a' c', e = .returned (.slice a' L.length c') ∧ w'.ownsRow w.heap.size 72 2 (.slice a' L.length c') L.length (cellsF Dk.cs L)) ∧ Below w.heap.size w w' := by
  obtain ⟨ti, hi, hi0, hi1, hi2⟩ := info_parts info38
  have hsrc := fun (W : World) (hW : Below w.heap.size w W) => (Fl.src dk_len (by decide) (hF.below hW)).1
  have hva := (Fl.src dk_len (by decide) hF).2
  clear hF
  cases va with
  | none =>
    have h0 := hva rfl
    obtain rfl : L = [] := List.length_eq_zero_iff.1 h0
    have heq : ∀ w, (binOp .eql 23 (.slice none 0 c) (.slice none 0 0)).run Try.prog w = .ok (.bool true) w := fun w => Lib.run_eql_slice_nil w 23 72 none 0 c 0 0 Try.underlying23
    go_enter Try.func35, Try.ntmps35
    go_wp2
    go_ret
    exact ⟨⟨none, 0, rfl, World.ownsRow_nil _ _ _ _⟩, Below.refl _ _⟩
  | some ad =>
    have heq : ∀ w, (binOp .eql 23 (.slice (some ad) L.length c) (.slice none 0 0)).run Try.prog w = .ok (.bool false) w := fun w => Lib.run_eql_slice_nil w 23 72 (some ad) L.length c 0 0 Try.underlying23
    have hs := fun W hW => hsrc W hW ad rfl
    have ow : ∀ W : World, (W.alloc (.cells #[] 72)).ownsRow W.heap.size 72 2 (.slice (some ⟨W.heap.size, 0, none⟩) 0 0) 0 [] := fun W => World.ownsRow_made W #[] 0 (Nat.le_refl _) (by unfold maxLen; omega) rfl
    clear hsrc hva
    go_enter Try.func35, Try.ntmps35
    go_wp2_with (at_builtin; refine wpList_append_own _ rfl _ _ 23 rfl w.heap.size 72 ti _ 2 40 Try.underlying23 hi hi0 hi1 hi2 rfl (by decide) (.slice (some ⟨w.heap.size, 0, none⟩) 0 0) 0 [] rfl (ow w) ad L.length c (cellsF Dk.cs L) rfl (cellsF_len dk_len L) (hs _ bel1) h1 (by unfold maxLen; omega) (by omega) (by simp) ?_; intro v' w' o1 o2 o3)
    rw [Nat.zero_add, List.nil_append] at o1
    obtain ⟨a', c', rfl⟩ := own_form o1
    go_ret
    exact ⟨⟨a', c', rfl, o1⟩, grown_bel (B := w.heap.size) bel1 o2 (Nat.le_refl _) (fun k hk => by injection hk with hk; subst hk; exact Nat.le_refl _)⟩
set_option maxRecDepth 100000 in
set_option maxHeartbeats 2000000 in
theorem cloneR_any (L : List Rw) (va : Option Addr) (c : Nat) (w : World) (hb : L.length ≤ 1000000) (hF : Fl 2 Rw.cs w (.slice va L.length c) L) :
    Calls Try.prog 36 #[.slice va L.length c] w fun e w' => (∃ a' c', e = .returned (.slice a' L.length c') ∧ w'.ownsRow w.heap.size 74 2 (.slice a' L.length c') L.length (cellsF Rw.cs L)) ∧ Below w.heap.size w w' := by
  obtain ⟨ti, hi, hi0, hi1, hi2⟩ := info_parts info40
  have hsrc := fun (W : World) (hW : Below w.heap.size w W) => (Fl.src rw_len (by decide) (hF.below hW)).1
  have hva := (Fl.src rw_len (by decide) hF).2
  clear hF
  cases va with
  | none =>
    have h0 := hva rfl
    obtain rfl : L = [] := List.length_eq_zero_iff.1 h0
    have heq : ∀ w, (binOp .eql 70 (.slice none 0 c) (.slice none 0 0)).run Try.prog w = .ok (.bool true) w := fun w => Lib.run_eql_slice_nil w 70 74 none 0 c 0 0 Try.underlying70
    go_enter Try.func36, Try.ntmps36
    go_wp2
    go_ret
    exact ⟨⟨none, 0, rfl, World.ownsRow_nil _ _ _ _⟩, Below.refl _ _⟩
  | some ad =>
    have heq : ∀ w, (binOp .eql 70 (.slice (some ad) L.length c) (.slice none 0 0)).run Try.prog w = .ok (.bool false) w := fun w => Lib.run_eql_slice_nil w 70 74 (some ad) L.length c 0 0 Try.underlying70
    have hs := fun W hW => hsrc W hW ad rfl
    have ow : ∀ W : World, (W.alloc (.cells #[] 74)).ownsRow W.heap.size 74 2 (.slice (some ⟨W.heap.size, 0, none⟩) 0 0) 0 [] := fun W => World.ownsRow_made W #[] 0 (Nat.le_refl _) (by unfold maxLen; omega) rfl
    clear hsrc hva
    go_enter Try.func36, Try.ntmps36
    go_wp2_with (at_builtin; refine wpList_append_own _ rfl _ _ 70 rfl w.heap.size 74 ti _ 2 16 Try.underlying70 hi hi0 hi1 hi2 rfl (by decide) (.slice (some ⟨w.heap.size, 0, none⟩) 0 0) 0 [] rfl (ow w) ad L.length c (cellsF Rw.cs L) rfl (cellsF_len rw_len L) (hs _ bel1) (cellsF_one rw_one L) (by unfold maxLen; omega) (by omega) (by simp) ?_; intro v' w' o1 o2 o3)
    rw [Nat.zero_add, List.nil_append] at o1
    obtain ⟨a', c', rfl⟩ := own_form o1
    go_ret
    exact ⟨⟨a', c', rfl, o1⟩, grown_bel (B := w.heap.size) bel1 o2 (Nat.le_refl _) (fun k hk => by injection hk with hk; subst hk; exact Nat.le_refl _)⟩
set_option maxRecDepth 100000 in
set_option maxHeartbeats 2000000 in
theorem cloneS_any (L : List Sn) (va : Option Addr) (c : Nat) (w : World) (hb : L.length ≤ 1000000) (hF : Fl 9 Sn.cs w (.slice va L.length c) L) :
    Calls Try.prog 37 #[.slice va L.length c] w fun e w' => (∃ a' c', e = .returned (.slice a' L.length c') ∧ w'.ownsRow w.heap.size 56 9 (.slice a' L.length c') L.length (cellsF Sn.cs L)) ∧ Below w.heap.size w w' := by
  obtain ⟨ti, hi, hi0, hi1, hi2⟩ := info_parts info63
  have hsrc := fun (W : World) (hW : Below w.heap.size w W) => (Fl.src sn_len (by decide) (hF.below hW)).1
  have hva := (Fl.src sn_len (by decide) hF).2
  clear hF
  cases va with
  | none =>
    have h0 := hva rfl
    obtain rfl : L = [] := List.length_eq_zero_iff.1 h0
    have heq : ∀ w, (binOp .eql 25 (.slice none 0 c) (.slice none 0 0)).run Try.prog w = .ok (.bool true) w := fun w => Lib.run_eql_slice_nil w 25 56 none 0 c 0 0 Try.underlying25
    go_enter Try.func37, Try.ntmps37
    go_wp2
    go_ret
    exact ⟨⟨none, 0, rfl, World.ownsRow_nil _ _ _ _⟩, Below.refl _ _⟩
  | some ad =>
    have heq : ∀ w, (binOp .eql 25 (.slice (some ad) L.length c) (.slice none 0 0)).run Try.prog w = .ok (.bool false) w := fun w => Lib.run_eql_slice_nil w 25 56 (some ad) L.length c 0 0 Try.underlying25
    have hs := fun W hW => hsrc W hW ad rfl
    have ow : ∀ W : World, (W.alloc (.cells #[] 56)).ownsRow W.heap.size 56 9 (.slice (some ⟨W.heap.size, 0, none⟩) 0 0) 0 [] := fun W => World.ownsRow_made W #[] 0 (Nat.le_refl _) (by unfold maxLen; omega) rfl
    clear hsrc hva
    go_enter Try.func37, Try.ntmps37
    go_wp2_with (at_builtin; refine wpList_append_own _ rfl _ _ 25 rfl w.heap.size 56 ti _ 9 72 Try.underlying25 hi hi0 hi1 hi2 rfl (by decide) (.slice (some ⟨w.heap.size, 0, none⟩) 0 0) 0 [] rfl (ow w) ad L.length c (cellsF Sn.cs L) rfl (cellsF_len sn_len L) (hs _ bel1) (cellsF_one sn_one L) (by unfold maxLen; omega) (by omega) (by simp) ?_; intro v' w' o1 o2 o3)
    rw [Nat.zero_add, List.nil_append] at o1
    obtain ⟨a', c', rfl⟩ := own_form o1
    go_ret
    exact ⟨⟨a', c', rfl, o1⟩, grown_bel (B := w.heap.size) bel1 o2 (Nat.le_refl _) (fun k hk => by injection hk with hk; subst hk; exact Nat.le_refl _)⟩
set_option maxRecDepth 100000 in
set_option maxHeartbeats 2000000 in
theorem cloneX_any (L : List Ex) (va : Option Addr) (c : Nat) (w : World) (hb : L.length ≤ 1000000) (hF : Fl 2 Ex.cs w (.slice va L.length c) L) :
    Calls Try.prog 38 #[.slice va L.length c] w fun e w' => (∃ a' c', e = .returned (.slice a' L.length c') ∧ w'.ownsRow w.heap.size 58 2 (.slice a' L.length c') L.length (cellsF Ex.cs L)) ∧ Below w.heap.size w w' := by
  obtain ⟨ti, hi, hi0, hi1, hi2⟩ := info_parts info65
  have hsrc := fun (W : World) (hW : Below w.heap.size w W) => (Fl.src ex_len (by decide) (hF.below hW)).1
  have hva := (Fl.src ex_len (by decide) hF).2
  clear hF
  cases va with
  | none =>
    have h0 := hva rfl
    obtain rfl : L = [] := List.length_eq_zero_iff.1 h0
    have heq : ∀ w, (binOp .eql 26 (.slice none 0 c) (.slice none 0 0)).run Try.prog w = .ok (.bool true) w := fun w => Lib.run_eql_slice_nil w 26 58 none 0 c 0 0 Try.underlying26
    go_enter Try.func38, Try.ntmps38
    go_wp2
    go_ret
    exact ⟨⟨none, 0, rfl, World.ownsRow_nil _ _ _ _⟩, Below.refl _ _⟩
  | some ad =>
    have heq : ∀ w, (binOp .eql 26 (.slice (some ad) L.length c) (.slice none 0 0)).run Try.prog w = .ok (.bool false) w := fun w => Lib.run_eql_slice_nil w 26 58 (some ad) L.length c 0 0 Try.underlying26
    have hs := fun W hW => hsrc W hW ad rfl
    have ow : ∀ W : World, (W.alloc (.cells #[] 58)).ownsRow W.heap.size 58 2 (.slice (some ⟨W.heap.size, 0, none⟩) 0 0) 0 [] := fun W => World.ownsRow_made W #[] 0 (Nat.le_refl _) (by unfold maxLen; omega) rfl
    clear hsrc hva
    go_enter Try.func38, Try.ntmps38
    go_wp2_with (at_builtin; refine wpList_append_own _ rfl _ _ 26 rfl w.heap.size 58 ti _ 2 16 Try.underlying26 hi hi0 hi1 hi2 rfl (by decide) (.slice (some ⟨w.heap.size, 0, none⟩) 0 0) 0 [] rfl (ow w) ad L.length c (cellsF Ex.cs L) rfl (cellsF_len ex_len L) (hs _ bel1) (cellsF_one ex_one L) (by unfold maxLen; omega) (by omega) (by simp) ?_; intro v' w' o1 o2 o3)
    rw [Nat.zero_add, List.nil_append] at o1
    obtain ⟨a', c', rfl⟩ := own_form o1
    go_ret
    exact ⟨⟨a', c', rfl, o1⟩, grown_bel (B := w.heap.size) bel1 o2 (Nat.le_refl _) (fun k hk => by injection hk with hk; subst hk; exact Nat.le_refl _)⟩
set_option maxRecDepth 100000 in
set_option maxHeartbeats 2000000 in
theorem cloneH_any (L : List Sh) (va : Option Addr) (c : Nat) (w : World) (hb : L.length ≤ 1000000) (hF : Fl 2 Sh.cs w (.slice va L.length c) L) :
    Calls Try.prog 39 #[.slice va L.length c] w fun e w' => (∃ a' c', e = .returned (.slice a' L.length c') ∧ w'.ownsRow w.heap.size 61 2 (.slice a' L.length c') L.length (cellsF Sh.cs L)) ∧ Below w.heap.size w w' := by
  obtain ⟨ti, hi, hi0, hi1, hi2⟩ := info_parts info68
  have hsrc := fun (W : World) (hW : Below w.heap.size w W) => (Fl.src sh_len (by decide) (hF.below hW)).1
  have hva := (Fl.src sh_len (by decide) hF).2
  clear hF
  cases va with
  | none =>
    have h0 := hva rfl
    obtain rfl : L = [] := List.length_eq_zero_iff.1 h0
    have heq : ∀ w, (binOp .eql 27 (.slice none 0 c) (.slice none 0 0)).run Try.prog w = .ok (.bool true) w := fun w => Lib.run_eql_slice_nil w 27 61 none 0 c 0 0 Try.underlying27
    go_enter Try.func39, Try.ntmps39
    go_wp2
    go_ret
    exact ⟨⟨none, 0, rfl, World.ownsRow_nil _ _ _ _⟩, Below.refl _ _⟩
  | some ad =>
    have heq : ∀ w, (binOp .eql 27 (.slice (some ad) L.length c) (.slice none 0 0)).run Try.prog w = .ok (.bool false) w := fun w => Lib.run_eql_slice_nil w 27 61 (some ad) L.length c 0 0 Try.underlying27
    have hs := fun W hW => hsrc W hW ad rfl
    have ow : ∀ W : World, (W.alloc (.cells #[] 61)).ownsRow W.heap.size 61 2 (.slice (some ⟨W.heap.size, 0, none⟩) 0 0) 0 [] := fun W => World.ownsRow_made W #[] 0 (Nat.le_refl _) (by unfold maxLen; omega) rfl
    clear hsrc hva
    go_enter Try.func39, Try.ntmps39
    go_wp2_with (at_builtin; refine wpList_append_own _ rfl _ _ 27 rfl w.heap.size 61 ti _ 2 16 Try.underlying27 hi hi0 hi1 hi2 rfl (by decide) (.slice (some ⟨w.heap.size, 0, none⟩) 0 0) 0 [] rfl (ow w) ad L.length c (cellsF Sh.cs L) rfl (cellsF_len sh_len L) (hs _ bel1) (cellsF_one sh_one L) (by unfold maxLen; omega) (by omega) (by simp) ?_; intro v' w' o1 o2 o3)
    rw [Nat.zero_add, List.nil_append] at o1
    obtain ⟨a', c', rfl⟩ := own_form o1
    go_ret
    exact ⟨⟨a', c', rfl, o1⟩, grown_bel (B := w.heap.size) bel1 o2 (Nat.le_refl _) (fun k hk => by injection hk with hk; subst hk; exact Nat.le_refl _)⟩
end Go.Proofs.Ytddphepgcihdbaa
