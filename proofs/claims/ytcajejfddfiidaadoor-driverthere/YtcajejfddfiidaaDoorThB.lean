import Derived.Laws.AppendOwn
import Derived.Test.YtcajejfddfiidaaDoorThA
namespace Go.Proofs.YtcajejfddfiidaaDoor
open Go.RowKit
set_option linter.unusedVariables false
set_option linter.unusedSimpArgs false


theorem cells_two {W : World} (x0 x1 : Value) (t : TypeId) : ∀ j u, [x0, x1][j]? = some u → (W.alloc (.cells #[x0, x1] t)).cell? ((⟨W.heap.size, 0, none⟩ : Addr).add j) = some u := by
  intro j u h
  have := (Has.new W #[x0, x1] t rfl).2.1 j
  rw [Go.WideShapes.add_plain, Nat.zero_add, this]
  simpa using h
theorem u5 : Tryd.prog.underlying 5 = some (.int .u8) := by kernel_rfl
theorem cv_one (c : UInt8) (W : World) (b : Nat) (hb : W.cell? ⟨b, 0, none⟩ = some (.int .u8 (c.toNat : Int))) : Sem.run Tryd.prog (convert 55 9 (.slice (some ⟨b, 0, none⟩) 1 1)) W = .ok (.string ⟨#[c]⟩) W := by
  have hcell : ∀ i, i < 1 → W.cell? ⟨b, 0 + i, none⟩ = some (.int .u8 ([(c.toNat : Int)].getD i 0)) := by
    intro i hi
    obtain rfl : i = 0 := by omega
    exact hb
  have := run_convert_bytes_arg (P := Tryd.prog) W 55 5 Tryd.underlying55 u5 b 0 1 1 [(c.toNat : Int)] rfl hcell 9 Tryd.underlying9
  have e : strOfNums [(c.toNat : Int)] = ⟨#[c]⟩ := by
    apply WideShapes.bytes_inj
    rw [strOfNums_data]
    simp
  rw [this, e]
theorem take_pl (L : List En) (k : Nat) (h : k < L.length) : cellsF En.cs ((L.take (k + 1)).map plE) = cellsF En.cs ((L.take k).map plE) ++ [.string (hpF L[k].heads 64), .int .i64 (spF L[k].stage)] := by
  rw [List.take_add_one, List.getElem?_eq_getElem h]
  simp only [Option.toList_some, List.map_append, List.map_cons, List.map_nil, cellsF_append]
  rfl
set_option maxRecDepth 100000 in
set_option maxHeartbeats 2000000 in
theorem plain_any (L : List En) (v : Value) (w : World) (hL : Fl 2 En.cs w v L) (hh : ∀ e ∈ L, e.heads.size ≤ 140737488355328) (hl : L.length ≤ 9223372036854775806) :
    Calls Tryd.prog 11 #[v] w fun e w' => ∃ u, e = .returned u ∧ Fl 2 En.cs w' u (plL L) ∧ Below w.heap.size w w' := by
  obtain ⟨va, vc, rfl, kL⟩ := hL.any
  obtain ⟨ti, hi, hx⟩ := Option.map_eq_some_iff.1 infoN
  have hi0 : ti.zero = some (.agg #[.string ⟨#[]⟩, .int .i64 0]) := congrArg (·.1) hx
  have hi1 : ti.size = 2 := congrArg (·.2.1) hx
  have hi2 : ti.bytes = 24 := congrArg (·.2.2) hx
  have hend : Hid (∀ (k : Nat) (a : Option Addr) (c : Nat) (X : World), k ≤ 65536 → (k = 65536 ∨ L.length ≤ k) → k ≤ L.length → X.ownsRow w.heap.size 34 2 (.slice a k c) k (cellsF En.cs ((L.take k).map plE)) → Fl 2 En.cs X (.slice a k c) (plL L)) := by
    intro k a c X h1 h2 h3 h4
    have e : (L.take k).map plE = plL L := by
      unfold plL
      rcases h2 with rfl | h2
      · rfl
      · rw [List.take_of_length_le h2, List.take_of_length_le (by omega)]
    rw [e] at h4
    have e2 : k = (plL L).length := by rw [← e]; simp; omega
    have h5 : X.ownsRow w.heap.size 34 2 (.slice a k c) (plL L).length (cellsF En.cs (plL L)) := by rw [← e2]; exact h4
    exact own_fl h5
  have hO0 : w.ownsRow w.heap.size 34 2 (.slice none 0 0) 0 (cellsF En.cs ((L.take 0).map plE)) := World.ownsRow_nil _ _ _ _
  clear hx hL
  go_enter Tryd.func11, Tryd.ntmps11
  go_wp2_with fail
  go_loopw [3, 4] (fun o i wr => ∃ (k : Nat) (a : Option Addr) (c : Nat), k ≤ L.length ∧ k ≤ 65536 ∧ o = .slice a k c ∧ i = .int .i64 (k : Int) ∧ Hid (wr.ownsRow w.heap.size 34 2 (.slice a k c) k (cellsF En.cs ((L.take k).map plE))) ∧ Hid (Below w.heap.size w wr)) (fun _ i _ => L.length - (intOf i).toNat)
  case atStart => exact ⟨0, none, 0, by omega, by omega, rfl, rfl, hO0, Below.refl _ _⟩
  case round =>
    clear hO0
    obtain ⟨k, a, c, hk, hk6, rfl, rfl, hO', hb'⟩ := hrel
    have hb := hb'.out
    clear hb'
    by_cases hlt : k < L.length
    case neg =>
      have t1 : ¬ (k : Int) < (L.length : Int) := by omega
      have hf : Hid _ := hend.out k a c wr hk6 (.inr (by omega)) hk hO'.out
      clear kL
      go_wp2_with fail
      go_ret
      exact ⟨_, rfl, hf.out, hb⟩
    have t1 : (k : Int) < (L.length : Int) := by omega
    by_cases h6 : k < 65536
    case neg =>
      have t2 : ¬ (k : Int) < 65536 := by omega
      have hf : Hid _ := hend.out k a c wr hk6 (.inl (by omega)) hk hO'.out
      clear kL
      go_wp2_with fail
      go_ret
      exact ⟨_, rfl, hf.out, hb⟩
    have t2 : (k : Int) < 65536 := by omega
    have t3 : (0 : Int) ≤ (k : Int) := by omega
    have hnx : Hid (∀ (X : World) (u : Value), X.ownsRow w.heap.size 34 2 u (k + 1) (cellsF En.cs ((L.take k).map plE) ++ [.string (hpF L[k].heads 64), .int .i64 (spF L[k].stage)]) → X.ownsRow w.heap.size 34 2 u (k + 1) (cellsF En.cs ((L.take (k + 1)).map plE))) := fun X u h => by rw [take_pl L k hlt]; exact h
    obtain ⟨g, o, rfl, hg, hx2⟩ := kL.resolve_left (by intro e; rw [e] at hlt; simp at hlt)
    have p0 := (hb.cell (p := ⟨g, _, none⟩) hg).trans (hx2 k hlt 0 _ rfl)
    have p1 := (hb.cell (p := ⟨g, _, none⟩) hg).trans (hx2 k hlt 1 _ rfl)
    simp only [Nat.add_zero] at p0
    have hz := hh _ (List.getElem_mem hlt)
    have hgr : g < wr.heap.size := Nat.lt_of_lt_of_le hg hb.size
    clear hx2 kL
    generalize L[k].heads = hd at *
    generalize L[k].stage = sk at *
    have e0 : hpF hd 0 = ⟨#[]⟩ := hp_zero hd
    have hO2 : Hid (∀ X, Below wr.heap.size wr X → X.ownsRow w.heap.size 34 2 (.slice a k c) k (cellsF En.cs ((L.take k).map plE))) := fun X hX => own_only hO'.out (Only.of_below (S := fun _ => False) hX) (fun _ _ h => h)
    have hP : Hid (∀ X, Below wr.heap.size wr X → X.cell? ⟨g, o + k * 2, none⟩ = some (.string hd) ∧ X.cell? ⟨g, o + k * 2 + 1, none⟩ = some (.int .i64 sk)) := fun X hX => ⟨(hX.cell (p := ⟨g, _, none⟩) hgr).trans p0, (hX.cell (p := ⟨g, _, none⟩) hgr).trans p1⟩
    clear hO'
    obtain ⟨wo, hwo⟩ : ∃ wo, wo = wr := ⟨_, rfl⟩
    subst hwo
    generalize cellsF En.cs ((L.take k).map plE) = xs at *
    go_wp2_with fail
    go_loopw [5, 6] (fun s j w2 => ∃ m : Nat, m ≤ 64 ∧ m ≤ hd.size ∧ s = .string (hpF hd m) ∧ j = .int .i64 (m : Int) ∧ Hid (Below wo.heap.size wo w2)) (fun _ j _ => 64 - (intOf j).toNat)
    case atStart => exact ⟨0, by omega, by omega, by rw [e0], rfl, Below.refl _ _⟩
    case round =>
      clear e0 p0 p1
      obtain ⟨m, hm6, hmz, rfl, rfl, hb2'⟩ := hrel
      have hb2 := hb2'.out
      clear hb2'
      obtain ⟨p0, p1⟩ := hP.out _ hb2
      have z2 := hb2.size
      by_cases hm : m < hd.size ∧ m < 64
      case pos =>
        have s1 : (m : Int) < (hd.size : Int) := by omega
        have s2 : (m : Int) < 64 := by omega
        have s3 : (0 : Int) ≤ (m : Int) := by omega
        have hps := hp_succ hd m hm.1
        have hsz : (hpF hd m).size ≤ 64 := by show (hpF hd m).data.size ≤ 64; unfold hpF; simp; omega
        have hr : hd[m].toNat % 4 = 0 ∨ hd[m].toNat % 4 = 1 ∨ hd[m].toNat % 4 = 2 ∨ hd[m].toNat % 4 = 3 := by omega
        clear hP hO2 hnx hend
        rcases hr with hr | hr | hr | hr
        · have q1 : ((hd[m].toNat : Int)).tmod 4 = 0 := by rw [Int.tmod_eq_emod_of_nonneg (by omega)]; omega
          have qp : pb hd[m] = (⟨#[114, 108, 103, 97]⟩ : ByteArray)[0] := by unfold pb; rw [hr]; rfl
          rw [qp] at hps
          have r1 : ∀ W : World, Sem.run Tryd.prog (Op.stringOp .add (hpF hd m) ⟨#[(⟨#[114, 108, 103, 97]⟩ : ByteArray)[0]]⟩) W = .ok (.string (hpF hd (m + 1))) W := fun W => by
            rw [run_string_add_sum W _ _ (by show _ + 1 ≤ _; omega), hps]
          have hcv := cv_one (⟨#[114, 108, 103, 97]⟩ : ByteArray)[0] (wr.alloc (.cells #[.int .u8 ((⟨#[114, 108, 103, 97]⟩ : ByteArray)[0].toNat : Int)] 5)) wr.heap.size (by simp)
          clear hr qp hps
          go_wp2_with fail
          go_roundw
          case rel => exact ⟨m + 1, by omega, by omega, rfl, by first | rfl | go_num, hb2.alloc hb2.size _⟩
          case measure => simp [intOf]; omega
        · have q1 : ((hd[m].toNat : Int)).tmod 4 = 1 := by rw [Int.tmod_eq_emod_of_nonneg (by omega)]; omega
          have qp : pb hd[m] = (⟨#[114, 108, 103, 97]⟩ : ByteArray)[1] := by unfold pb; rw [hr]; rfl
          rw [qp] at hps
          have r1 : ∀ W : World, Sem.run Tryd.prog (Op.stringOp .add (hpF hd m) ⟨#[(⟨#[114, 108, 103, 97]⟩ : ByteArray)[1]]⟩) W = .ok (.string (hpF hd (m + 1))) W := fun W => by
            rw [run_string_add_sum W _ _ (by show _ + 1 ≤ _; omega), hps]
          have hcv := cv_one (⟨#[114, 108, 103, 97]⟩ : ByteArray)[1] (wr.alloc (.cells #[.int .u8 ((⟨#[114, 108, 103, 97]⟩ : ByteArray)[1].toNat : Int)] 5)) wr.heap.size (by simp)
          clear hr qp hps
          go_wp2_with fail
          go_roundw
          case rel => exact ⟨m + 1, by omega, by omega, rfl, by first | rfl | go_num, hb2.alloc hb2.size _⟩
          case measure => simp [intOf]; omega
        · have q1 : ((hd[m].toNat : Int)).tmod 4 = 2 := by rw [Int.tmod_eq_emod_of_nonneg (by omega)]; omega
          have qp : pb hd[m] = (⟨#[114, 108, 103, 97]⟩ : ByteArray)[2] := by unfold pb; rw [hr]; rfl
          rw [qp] at hps
          have r1 : ∀ W : World, Sem.run Tryd.prog (Op.stringOp .add (hpF hd m) ⟨#[(⟨#[114, 108, 103, 97]⟩ : ByteArray)[2]]⟩) W = .ok (.string (hpF hd (m + 1))) W := fun W => by
            rw [run_string_add_sum W _ _ (by show _ + 1 ≤ _; omega), hps]
          have hcv := cv_one (⟨#[114, 108, 103, 97]⟩ : ByteArray)[2] (wr.alloc (.cells #[.int .u8 ((⟨#[114, 108, 103, 97]⟩ : ByteArray)[2].toNat : Int)] 5)) wr.heap.size (by simp)
          clear hr qp hps
          go_wp2_with fail
          go_roundw
          case rel => exact ⟨m + 1, by omega, by omega, rfl, by first | rfl | go_num, hb2.alloc hb2.size _⟩
          case measure => simp [intOf]; omega
        · have q1 : ((hd[m].toNat : Int)).tmod 4 = 3 := by rw [Int.tmod_eq_emod_of_nonneg (by omega)]; omega
          have qp : pb hd[m] = (⟨#[114, 108, 103, 97]⟩ : ByteArray)[3] := by unfold pb; rw [hr]; rfl
          rw [qp] at hps
          have r1 : ∀ W : World, Sem.run Tryd.prog (Op.stringOp .add (hpF hd m) ⟨#[(⟨#[114, 108, 103, 97]⟩ : ByteArray)[3]]⟩) W = .ok (.string (hpF hd (m + 1))) W := fun W => by
            rw [run_string_add_sum W _ _ (by show _ + 1 ≤ _; omega), hps]
          have hcv := cv_one (⟨#[114, 108, 103, 97]⟩ : ByteArray)[3] (wr.alloc (.cells #[.int .u8 ((⟨#[114, 108, 103, 97]⟩ : ByteArray)[3].toNat : Int)] 5)) wr.heap.size (by simp)
          clear hr qp hps
          go_wp2_with fail
          go_roundw
          case rel => exact ⟨m + 1, by omega, by omega, rfl, by first | rfl | go_num, hb2.alloc hb2.size _⟩
          case measure => simp [intOf]; omega
      have e6 : hpF hd m = hpF hd 64 := by
        by_cases h : m < 64
        · have : m = hd.size := by omega
          rw [this]; exact (hp_end hd 64 (by omega)).symm
        · have : m = 64 := by omega
          rw [this]
      have hown := hO2.out _ hb2
      have hbw := hb.trans (hb2.mono hb.size)
      have hgo : Hid (∀ (z : Int), z = spF sk → ∀ (v' : Value) (w5 : World), w5.ownsRow w.heap.size 34 2 v' (k + 1) (xs ++ [.string (hpF hd 64), .int .i64 z]) → ∃ a' c', v' = .slice a' (k + 1) c' ∧ w5.ownsRow w.heap.size 34 2 (.slice a' (k + 1) c') (k + 1) (cellsF En.cs ((L.take (k + 1)).map plE))) := by
        rintro z rfl v' w5 h
        obtain ⟨a', c', rfl⟩ := own_slice' h
        exact ⟨a', c', rfl, hnx.out w5 _ h⟩
      rw [e6]
      clear hP hO2 hnx hend
      by_cases hc1 : m < hd.size
      case neg =>
        have s1 : ¬ (m : Int) < (hd.size : Int) := by omega
        clear hm
        by_cases hneg : sk.tmod 256 < 0
        case pos =>
          have hsp : Hid ((-1 : Int) = spF sk) := by show _ = _; unfold spF; rw [if_pos hneg]
          have hal := hown.alloc (.cells #[.string (hpF hd 64), .int .i64 (-1)] 34)
          go_wp2_with (at_builtin; refine wpList_append_own _ rfl _ _ 28 rfl w.heap.size 34 ti _ 2 24 Tryd.underlying28 hi hi0 hi1 hi2 rfl (by decide) (.slice a k c) k xs rfl hal ⟨wr.heap.size, 0, none⟩ 1 1 [.string (hpF hd 64), .int .i64 (-1)] rfl rfl (cells_two _ _ _) (fun u hu => by simp at hu; rcases hu with rfl | rfl <;> rfl) (by unfold maxLen; omega) (by omega) (by have := hbw.size; simp; omega) ?_; intro v' w5 ho5 hg5 hv5)
          obtain ⟨a', c', rfl, ho6⟩ := hgo.out _ hsp.out v' w5 ho5
          have hb5 : Below w.heap.size w w5 := (hbw.alloc hbw.size _).trans ⟨hg5.os, hg5.tape, hg5.output, hg5.size, fun j hj => hg5.block j (by have := hbw.size; simp; omega) (fun e => by have := (own_lt hal j e.symm).1; omega)⟩
          go_wp2_with fail
          go_roundw
          case rel => exact ⟨k + 1, a', c', by omega, by omega, rfl, by first | rfl | go_num, ho6, hb5⟩
          case measure => simp [intOf]; omega
        case neg =>
          have hsp : Hid (sk.tmod 256 = spF sk) := by show _ = _; unfold spF; rw [if_neg hneg]
          have hal := hown.alloc (.cells #[.string (hpF hd 64), .int .i64 (sk.tmod 256)] 34)
          go_wp2_with (at_builtin; refine wpList_append_own _ rfl _ _ 28 rfl w.heap.size 34 ti _ 2 24 Tryd.underlying28 hi hi0 hi1 hi2 rfl (by decide) (.slice a k c) k xs rfl hal ⟨wr.heap.size, 0, none⟩ 1 1 [.string (hpF hd 64), .int .i64 (sk.tmod 256)] rfl rfl (cells_two _ _ _) (fun u hu => by simp at hu; rcases hu with rfl | rfl <;> rfl) (by unfold maxLen; omega) (by omega) (by have := hbw.size; simp; omega) ?_; intro v' w5 ho5 hg5 hv5)
          obtain ⟨a', c', rfl, ho6⟩ := hgo.out _ hsp.out v' w5 ho5
          have hb5 : Below w.heap.size w w5 := (hbw.alloc hbw.size _).trans ⟨hg5.os, hg5.tape, hg5.output, hg5.size, fun j hj => hg5.block j (by have := hbw.size; simp; omega) (fun e => by have := (own_lt hal j e.symm).1; omega)⟩
          go_wp2_with fail
          go_roundw
          case rel => exact ⟨k + 1, a', c', by omega, by omega, rfl, by first | rfl | go_num, ho6, hb5⟩
          case measure => simp [intOf]; omega
      case pos =>
        have s1 : (m : Int) < (hd.size : Int) := by omega
        have s2 : ¬ (m : Int) < 64 := by omega
        clear hm
        by_cases hneg : sk.tmod 256 < 0
        case pos =>
          have hsp : Hid ((-1 : Int) = spF sk) := by show _ = _; unfold spF; rw [if_pos hneg]
          have hal := hown.alloc (.cells #[.string (hpF hd 64), .int .i64 (-1)] 34)
          go_wp2_with (at_builtin; refine wpList_append_own _ rfl _ _ 28 rfl w.heap.size 34 ti _ 2 24 Tryd.underlying28 hi hi0 hi1 hi2 rfl (by decide) (.slice a k c) k xs rfl hal ⟨wr.heap.size, 0, none⟩ 1 1 [.string (hpF hd 64), .int .i64 (-1)] rfl rfl (cells_two _ _ _) (fun u hu => by simp at hu; rcases hu with rfl | rfl <;> rfl) (by unfold maxLen; omega) (by omega) (by have := hbw.size; simp; omega) ?_; intro v' w5 ho5 hg5 hv5)
          obtain ⟨a', c', rfl, ho6⟩ := hgo.out _ hsp.out v' w5 ho5
          have hb5 : Below w.heap.size w w5 := (hbw.alloc hbw.size _).trans ⟨hg5.os, hg5.tape, hg5.output, hg5.size, fun j hj => hg5.block j (by have := hbw.size; simp; omega) (fun e => by have := (own_lt hal j e.symm).1; omega)⟩
          go_wp2_with fail
          go_roundw
          case rel => exact ⟨k + 1, a', c', by omega, by omega, rfl, by first | rfl | go_num, ho6, hb5⟩
          case measure => simp [intOf]; omega
        case neg =>
          have hsp : Hid (sk.tmod 256 = spF sk) := by show _ = _; unfold spF; rw [if_neg hneg]
          have hal := hown.alloc (.cells #[.string (hpF hd 64), .int .i64 (sk.tmod 256)] 34)
          go_wp2_with (at_builtin; refine wpList_append_own _ rfl _ _ 28 rfl w.heap.size 34 ti _ 2 24 Tryd.underlying28 hi hi0 hi1 hi2 rfl (by decide) (.slice a k c) k xs rfl hal ⟨wr.heap.size, 0, none⟩ 1 1 [.string (hpF hd 64), .int .i64 (sk.tmod 256)] rfl rfl (cells_two _ _ _) (fun u hu => by simp at hu; rcases hu with rfl | rfl <;> rfl) (by unfold maxLen; omega) (by omega) (by have := hbw.size; simp; omega) ?_; intro v' w5 ho5 hg5 hv5)
          obtain ⟨a', c', rfl, ho6⟩ := hgo.out _ hsp.out v' w5 ho5
          have hb5 : Below w.heap.size w w5 := (hbw.alloc hbw.size _).trans ⟨hg5.os, hg5.tape, hg5.output, hg5.size, fun j hj => hg5.block j (by have := hbw.size; simp; omega) (fun e => by have := (own_lt hal j e.symm).1; omega)⟩
          go_wp2_with fail
          go_roundw
          case rel => exact ⟨k + 1, a', c', by omega, by omega, rfl, by first | rfl | go_num, ho6, hb5⟩
          case measure => simp [intOf]; omega
end Go.Proofs.YtcajejfddfiidaaDoor
