import Derived.Test.YtjohnhaahpggkaaDoorPcsT
import Derived.Test.YtjohnhaahpggkaaDoorPcsQ
import Derived.Test.YtjohnhaahpggkaaDoorStrD
import Derived.Sort.QuietIn
namespace Go.Proofs.YtjohnhaahpggkaaDoor
open Go.RowKit
set_option linter.unusedVariables false
set_option linter.unusedSimpArgs false

/-- What may stand behind a fault. -/
def Gap (r : List UInt8) : Prop := r = [] ∨ ∃ r', r = 32 :: r'
/-- A text that is a fault. -/
structure Bad (b : List UInt8) (er : Int) : Prop where
  hd : Hd b
  len : b.length ≤ 33
  rng : 20 ≤ er ∧ er ≤ 24
  tk : ∀ r, Gap r → (firstTk (b ++ r)).1 = ⟨-1, er, []⟩

theorem gap_meld {b r : List UInt8} (h : Gap r) : meldF b r = false := by
  rcases h with rfl | ⟨r', rfl⟩
  · unfold meldF; cases b.getLast? <;> rfl
  · exact (meldF_app (a := [32]) (b := r') (l := b) (by simp)).trans (meld_blank b)
theorem bad_run {c : UInt8} {b : List UInt8} {er : Int} (hall : (c :: b).all isR = true) (hc : isL c = true ∨ isD c = true) (hlen : (c :: b).length ≤ 33) (her : 20 ≤ er ∧ er ≤ 24) (hk : (firstTk (c :: b)).1.kind = -1 ∧ (firstTk (c :: b)).1.num = er ∧ (firstTk (c :: b)).1.text = []) : Bad (c :: b) er := by
  refine ⟨⟨c, b, rfl, (hd_run (by simp at hall; exact hall.1)).1, (hd_run (by simp at hall; exact hall.1)).2⟩, hlen, her, fun r hr => ?_⟩
  have hh : (firstTk (c :: b)).1 = ⟨-1, er, []⟩ := by
    obtain ⟨k1, k2, k3⟩ := hk
    cases hx : (firstTk (c :: b)).1
    rw [hx] at k1 k2 k3
    simp at k1 k2 k3
    rw [k1, k2, k3]
  have h1 := run_app hall (by simp) (gap_meld hr)
  have h2 := run_app (r := []) hall (by simp) (gap_meld (.inl rfl))
  rw [List.append_nil] at h2
  cases hL : isL c with
  | true =>
    rw [first_L c b hL, h2] at hh
    rw [List.cons_append, first_L c (b ++ r) hL, ← List.cons_append, h1]
    exact hh
  | false =>
    have hD : isD c = true := by rcases hc with h | h; (rw [hL] at h; cases h); exact h
    rw [first_D c b hL hD, h2] at hh
    rw [List.cons_append, first_D c (b ++ r) hL hD, ← List.cons_append, h1]
    exact hh
theorem bad_one {c : UInt8} (hL : isL c = false) (hD : isD c = false) (hB : isB c = false) (h35 : ¬ c.toNat = 35) (h1 : sgK [c] = -1) (h2 : sgK [c, 32] = -1) : Bad [c] 21 := by
  refine ⟨⟨c, [], rfl, hB, h35⟩, by simp, by omega, fun r hr => ?_⟩
  rw [List.cons_append, List.nil_append, first_S c r hL hD]
  unfold signTk
  rcases hr with rfl | ⟨r', rfl⟩
  · simp [h1]
  · simp [h1, h2]
theorem bad_two {c d : UInt8} (hL : isL c = false) (hD : isD c = false) (hB : isB c = false) (h35 : ¬ c.toNat = 35) (h1 : sgK [c] = -1) (h2 : sgK [c, d] = -1) : Bad [c, d] 21 := by
  refine ⟨⟨c, [d], rfl, hB, h35⟩, by simp, by omega, fun r hr => ?_⟩
  rw [List.cons_append, first_S c _ hL hD]
  unfold signTk
  simp [h1, h2]

theorem bad0 : Bad [33] 21 := bad_one (by decide) (by decide) (by decide) (by decide) (by decide) (by decide)
theorem bad1 : Bad [95] 21 := bad_one (by decide) (by decide) (by decide) (by decide) (by decide) (by decide)
theorem bad2 : Bad [0] 21 := bad_one (by decide) (by decide) (by decide) (by decide) (by decide) (by decide)
theorem bad3 : Bad [195, 169] 21 := bad_two (by decide) (by decide) (by decide) (by decide) (by decide) (by decide)
theorem bad4 : Bad [49, 50, 120] 22 := bad_run (by decide) (by decide) (by decide) (by decide) (by decide)
theorem bad5 : Bad [49, 95, 95, 50] 22 := bad_run (by decide) (by decide) (by decide) (by decide) (by decide)
theorem bad6 : Bad [48, 120] 22 := bad_run (by decide) (by decide) (by decide) (by decide) (by decide)
theorem bad7 : Bad [51, 48, 115, 49, 109] 22 := bad_run (by decide) (by decide) (by decide) (by decide) (by decide)
theorem bad8 : Bad [49, 109, 51, 48] 22 := bad_run (by decide) (by decide) (by decide) (by decide) (by decide)
theorem bad9 : Bad [50, 49, 52, 55, 52, 56, 51, 54, 52, 56] 23 := bad_run (by decide) (by decide) (by decide) (by decide) (by decide)
theorem bad10 : Bad [48, 120, 56, 48, 48, 48, 95, 48, 48, 48, 48] 23 := bad_run (by decide) (by decide) (by decide) (by decide) (by decide)
theorem bad11 : Bad [97, 98, 99, 100, 101, 102, 103, 104, 105, 106, 107, 108, 109, 110, 111, 112, 113, 114, 115, 116, 117, 118, 119, 120, 121, 122, 48, 49, 50, 51, 52, 53, 54] 24 := bad_run (by decide) (by decide) (by decide) (by decide) (by decide)

theorem Wrt.bad {B la b r : List UInt8} {T : List Tok} {er : Int} (h : Wrt B T la) (hb : Bad b er) (hr : Gap r) : Stm (bs (B ++ (32 :: (b ++ r)))) 0 T ⟨⟨-1, er, []⟩, (behL 1 1 B).1, (behL 1 1 B).2 + 1⟩ := by
  have hw := h.skp skp_one (by simp) (meld_blank la)
  obtain ⟨c, b', hb1, hB, h35⟩ := hb.hd
  have hm : meldF [32] (b ++ r) = false := blank_meld (by rw [hb1]; simp)
  have e1 : B ++ (32 :: (b ++ r)) = (B ++ [32]) ++ (b ++ r) := by simp
  rw [e1]
  have hsk : skipAt (bs ((B ++ [32]) ++ (b ++ r))) (B ++ [32]).length = (B ++ [32]).length := by
    unfold skipAt
    rw [drop_of, hb1, List.cons_append, skipL, if_neg (by simp [hB]), if_neg h35]; rfl
  have hp := place_of (B ++ [32]) (b ++ r)
  have hbe : behL 1 1 (B ++ [32]) = ((behL 1 1 B).1, (behL 1 1 B).2 + 1) := by rw [behL_app]; rfl
  rw [hbe] at hp
  have et : tokAt (bs ((B ++ [32]) ++ (b ++ r))) (B ++ [32]).length = ⟨⟨-1, er, []⟩, (behL 1 1 B).1, (behL 1 1 B).2 + 1⟩ := by
    unfold tokAt
    rw [drop_of, hb.tk r hr, hp.1, hp.2]
  have hst := Stm.stop (s := bs ((B ++ [32]) ++ (b ++ r))) (B ++ [32]).length (by rw [hsk, et]; exact .inr rfl)
  rw [hsk, et] at hst
  have := hw.read (b ++ r) [] _ hm hst
  rw [List.append_nil] at this
  exact this
end Go.Proofs.YtjohnhaahpggkaaDoor
namespace Go.Proofs.YtjohnhaahpggkaaDoor
open Go.RowKit
set_option linter.unusedVariables false
set_option linter.unusedSimpArgs false

set_option maxRecDepth 100000 in
set_option maxHeartbeats 4000000 in
theorem bad_any (n : Int) (W : World) (hn1 : -9223372036854775808 ≤ n) (hn2 : n < 9223372036854775808) :
    Calls Tryd.prog 19 #[.int .i64 n] W fun e w' => (∃ b er, e = .returned (.tuple #[.string (bs b), .int .i64 er]) ∧ Bad b er) ∧ w' = W := by
  have B0 := fun U => below_any n 12 U (by omega) (by omega) hn1 hn2
  have h12 : n % 12 = 0 ∨ n % 12 = 1 ∨ n % 12 = 2 ∨ n % 12 = 3 ∨ n % 12 = 4 ∨ n % 12 = 5 ∨ n % 12 = 6 ∨ n % 12 = 7 ∨ n % 12 = 8 ∨ n % 12 = 9 ∨ n % 12 = 10 ∨ n % 12 = 11 := by omega
  clear hn1 hn2
  rcases h12 with h | h | h | h | h | h | h | h | h | h | h | h
  all_goals
    rw [h] at B0
    clear h
    go_enter Tryd.func19, Tryd.ntmps19
    go_wp2_with (go_at_call 34; (with_reducible refine (B0 _).mono ?_); rintro e w9 ⟨rfl, hw9⟩; have hw9' := hw9.symm; subst hw9')
  · exact bodyPost_ret (v := .tuple #[.string ⟨#[33]⟩, .int .i64 21]) (by simp [results, Tryd.results19, go_sem]) rfl ⟨⟨[33], 21, rfl, bad0⟩, rfl⟩
  · exact bodyPost_ret (v := .tuple #[.string ⟨#[95]⟩, .int .i64 21]) (by simp [results, Tryd.results19, go_sem]) rfl ⟨⟨[95], 21, rfl, bad1⟩, rfl⟩
  · exact bodyPost_ret (v := .tuple #[.string ⟨#[0]⟩, .int .i64 21]) (by simp [results, Tryd.results19, go_sem]) rfl ⟨⟨[0], 21, rfl, bad2⟩, rfl⟩
  · exact bodyPost_ret (v := .tuple #[.string ⟨#[195, 169]⟩, .int .i64 21]) (by simp [results, Tryd.results19, go_sem]) rfl ⟨⟨[195, 169], 21, rfl, bad3⟩, rfl⟩
  · exact bodyPost_ret (v := .tuple #[.string ⟨#[49, 50, 120]⟩, .int .i64 22]) (by simp [results, Tryd.results19, go_sem]) rfl ⟨⟨[49, 50, 120], 22, rfl, bad4⟩, rfl⟩
  · exact bodyPost_ret (v := .tuple #[.string ⟨#[49, 95, 95, 50]⟩, .int .i64 22]) (by simp [results, Tryd.results19, go_sem]) rfl ⟨⟨[49, 95, 95, 50], 22, rfl, bad5⟩, rfl⟩
  · exact bodyPost_ret (v := .tuple #[.string ⟨#[48, 120]⟩, .int .i64 22]) (by simp [results, Tryd.results19, go_sem]) rfl ⟨⟨[48, 120], 22, rfl, bad6⟩, rfl⟩
  · exact bodyPost_ret (v := .tuple #[.string ⟨#[51, 48, 115, 49, 109]⟩, .int .i64 22]) (by simp [results, Tryd.results19, go_sem]) rfl ⟨⟨[51, 48, 115, 49, 109], 22, rfl, bad7⟩, rfl⟩
  · exact bodyPost_ret (v := .tuple #[.string ⟨#[49, 109, 51, 48]⟩, .int .i64 22]) (by simp [results, Tryd.results19, go_sem]) rfl ⟨⟨[49, 109, 51, 48], 22, rfl, bad8⟩, rfl⟩
  · exact bodyPost_ret (v := .tuple #[.string ⟨#[50, 49, 52, 55, 52, 56, 51, 54, 52, 56]⟩, .int .i64 23]) (by simp [results, Tryd.results19, go_sem]) rfl ⟨⟨[50, 49, 52, 55, 52, 56, 51, 54, 52, 56], 23, rfl, bad9⟩, rfl⟩
  · exact bodyPost_ret (v := .tuple #[.string ⟨#[48, 120, 56, 48, 48, 48, 95, 48, 48, 48, 48]⟩, .int .i64 23]) (by simp [results, Tryd.results19, go_sem]) rfl ⟨⟨[48, 120, 56, 48, 48, 48, 95, 48, 48, 48, 48], 23, rfl, bad10⟩, rfl⟩
  · exact bodyPost_ret (v := .tuple #[.string ⟨#[97, 98, 99, 100, 101, 102, 103, 104, 105, 106, 107, 108, 109, 110, 111, 112, 113, 114, 115, 116, 117, 118, 119, 120, 121, 122, 48, 49, 50, 51, 52, 53, 54]⟩, .int .i64 24]) (by simp [results, Tryd.results19, go_sem]) rfl ⟨⟨[97, 98, 99, 100, 101, 102, 103, 104, 105, 106, 107, 108, 109, 110, 111, 112, 113, 114, 115, 116, 117, 118, 119, 120, 121, 122, 48, 49, 50, 51, 52, 53, 54], 24, rfl, bad11⟩, rfl⟩
end Go.Proofs.YtjohnhaahpggkaaDoor
namespace Go.Proofs.YtjohnhaahpggkaaDoor
open Go.RowKit Go.Shelf
set_option linter.unusedVariables false
set_option linter.unusedSimpArgs false

attribute [local go_sem] Oper.semAt_some
theorem fn_nil' (f : Fn) (a b : Array Value) (w : World) : (binOp .eql 31 (.func f a b) .nilFunc).run Tryd.prog w = .ok (.bool false) w := rfl
attribute [local go_sem] fn_nil'
theorem cat_bad (B b : List UInt8) : bs B ++ (⟨#[32]⟩ : ByteArray) ++ bs b = bs (B ++ (32 :: (b ++ []))) := by
  rw [show (⟨#[32]⟩ : ByteArray) = bs [32] from rfl, bs_app, bs_app]; simp
theorem cat_bad2 (B b r : List UInt8) : bs B ++ (⟨#[32]⟩ : ByteArray) ++ bs b ++ ⟨#[32]⟩ ++ bs r = bs (B ++ (32 :: (b ++ (32 :: r)))) := by
  rw [show (⟨#[32]⟩ : ByteArray) = bs [32] from rfl, bs_app, bs_app, bs_app, bs_app]; simp
theorem own_slice {w : World} {base e size n : Nat} {v : Value} {xs : List Value} (h : w.ownsRow base e size v n xs) : ∃ a c, v = .slice a n c := by
  rcases h.2 with ⟨h, h0⟩ | ⟨g', c', _, h, _⟩
  · exact ⟨none, 0, by rw [h, h0]⟩
  · exact ⟨_, _, h⟩
/-- What Scan answers to a fault. -/
theorem scan_bad {B la b r S : List UInt8} {T : List Tok} {er : Int} (hW : Wrt B T la) (hb : Bad b er) (hr : Gap r) (hS : S = B ++ (32 :: (b ++ r))) (hl : S.length ≤ 65536) (hT : T.length ≤ 4000) :
    Whole (bs S) T ⟨⟨-1, er, []⟩, (behL 1 1 B).1, (behL 1 1 B).2 + 1⟩ ∧ ∀ U : World, Wt U → Calls Tryd.prog 17 #[.string (bs S)] U fun e w' => e = .returned (.tuple #[.slice none 0 0, .agg #[.int .i64 er, .int .i64 (behL 1 1 B).1, .int .i64 ((behL 1 1 B).2 + 1)]]) ∧ Below U.heap.size U w' := by
  subst hS
  have hWh : Whole (bs (B ++ (32 :: (b ++ r)))) T ⟨⟨-1, er, []⟩, (behL 1 1 B).1, (behL 1 1 B).2 + 1⟩ := .inl ⟨by rw [bs_sz]; omega, hW.bad hb hr⟩
  refine ⟨hWh, fun U hU => (scan_ans _ T _ U hWh hU (by omega)).mono ?_⟩
  rintro e w' ⟨v, f, rfl, h, hb'⟩
  rcases h with ⟨_, rfl, rfl⟩ | ⟨h, _⟩
  · exact ⟨rfl, hb'⟩
  · simp at h

/-- What stands between two rounds: n tokens have been counted. -/
structure FtI (w0 : World) (M sb g cap : Nat) (L : List Tok) (n : Nat) (W : World) : Prop where
  res : Has W w0.heap.size #[.bool false]
  ml : Has W M #[.slice (some ⟨g, 0, none⟩) L.length cap]
  cnt : Has W (sb + 1) #[.int .i64 n]
  row : W.ownsRow w0.heap.size 36 5 (.slice (some ⟨g, 0, none⟩) L.length cap) L.length (cellsOf L)
  bel : Below w0.heap.size w0 W
  glt : g < sb
  plt : w0.heap.size + 1 ≤ M
  mlt : M < sb
theorem FtI.only {w0 : World} {M sb g cap n : Nat} {L : List Tok} {A C : World} {S : Nat → Prop} (h : FtI w0 M sb g cap L n A) (ho : Only S A C) (hS : ∀ k, k < sb + 2 → ¬ S k) : FtI w0 M sb g cap L n C := by
  have h1 := h.glt
  have h2 := h.plt
  have h3 := h.bel.size
  have h4 := h.cnt.1
  have h5 := h.mlt
  exact ⟨h.res.only ho (hS _ (by omega)), h.ml.only ho (hS _ (by omega)), h.cnt.only ho (hS _ (by omega)),
    own_keep h.row (fun k hk => ho.block k (h.row.lt k hk).2 (hS _ (by have : g = k := Option.some.inj hk; omega))),
    h.bel.trans ⟨ho.os, ho.tape, ho.output, ho.size, fun k hk => ho.block k (by omega) (hS _ (by omega))⟩, h1, h2, h5⟩
theorem FtI.count {w0 : World} {M sb g cap n : Nat} {L : List Tok} {A : World} (h : FtI w0 M sb g cap L n A) (m : Nat) : FtI w0 M sb g cap L m (A.setCell ⟨sb + 1, 0, none⟩ (.int .i64 m)) := by
  have h1 := h.glt
  have h2 := h.plt
  have h5 := h.mlt
  exact ⟨h.res.far (by omega) _, h.ml.far (by omega) _, h.cnt.set 0 (by simp) _,
    own_keep h.row (fun k hk => Below.heap_setCell _ _ _ _ (by have : g = k := Option.some.inj hk; show k ≠ sb + 1; omega)),
    h.bel.setCell (by show w0.heap.size ≤ sb + 1; omega) _, h1, h2, h5⟩
theorem FtI.drew {w0 : World} {M sb g cap n : Nat} {L : List Tok} {A : World} (h : FtI w0 M sb g cap L n A) : FtI w0 M sb g cap L n A.drew := h.only (Only.drew (Only.refl (fun _ => False) A)) (fun _ _ h => h)
theorem pre_lt' {ts pre : List Tok} {x : Tok} (h : pre ++ [x] <+: ts) : ∃ h : pre.length < ts.length, ts[pre.length] = x := by
  obtain ⟨r, rfl⟩ := h
  exact ⟨by simp, by simp⟩
end Go.Proofs.YtjohnhaahpggkaaDoor
