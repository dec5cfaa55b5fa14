import Derived.Test.YtoaokpmnjppfcaaWaD
namespace Go.Proofs.Ytoaokpmnjppfcaa
open Go.RowKit
set_option linter.unusedVariables false
set_option linter.unusedSimpArgs false

set_option maxRecDepth 100000 in
set_option maxHeartbeats 4000000 in
theorem look3_any (x : Al) (gn mi am le tt wc wl wf nc nl nf : Int) (M O1 S2 O2 S3 : Bool) (F : Nat) (w : World) (hF0 : Has w F #[.int .i64 x.k, .int .i64 x.t, .int .i64 x.a, .int .i64 x.b]) (h1 : 0 < tt) 
    (h50 : ∀ W, Calls Try.prog 50 #[.agg #[.int .i64 gn, .int .i64 mi, .int .i64 am, .int .i64 le], .int .u8 wc, .int .u8 nc] W fun e w' => e = .returned (.bool M) ∧ Below W.heap.size W w')
    (s1 : ∀ W, Calls Try.prog 51 #[.agg #[.int .i64 tt, .int .u8 wc, .int .i64 wl, .int .i64 wf, .int .u8 nc, .int .i64 nl, .int .i64 nf], .int .u8 97, .int .i64 am] W fun e w' => e = .returned (.bool true) ∧ Below W.heap.size W w')
    (o1 : ∀ W, Calls Try.prog 52 #[.agg #[.int .i64 tt, .int .u8 wc, .int .i64 wl, .int .i64 wf, .int .u8 nc, .int .i64 nl, .int .i64 nf], .int .u8 97, .int .i64 am] W fun e w' => e = .returned (.bool O1) ∧ Below W.heap.size W w')
    (s2 : ∀ W, Calls Try.prog 51 #[.agg #[.int .i64 tt, .int .u8 wc, .int .i64 wl, .int .i64 wf, .int .u8 nc, .int .i64 nl, .int .i64 nf], .int .u8 108, .int .i64 le] W fun e w' => e = .returned (.bool S2) ∧ Below W.heap.size W w')
    (o2 : ∀ W, Calls Try.prog 52 #[.agg #[.int .i64 tt, .int .u8 wc, .int .i64 wl, .int .i64 wf, .int .u8 nc, .int .i64 nl, .int .i64 nf], .int .u8 108, .int .i64 le] W fun e w' => e = .returned (.bool O2) ∧ Below W.heap.size W w')
    (s3 : ∀ W, Calls Try.prog 51 #[.agg #[.int .i64 tt, .int .u8 wc, .int .i64 wl, .int .i64 wf, .int .u8 nc, .int .i64 nl, .int .i64 nf], .int .u8 103, .int .i64 mi] W fun e w' => e = .returned (.bool S3) ∧ Below W.heap.size W w') :
    Calls Try.prog 37 #[.agg #[.int .i64 gn, .int .i64 mi, .int .i64 am, .int .i64 le], .agg #[.int .i64 tt, .int .u8 wc, .int .i64 wl, .int .i64 wf, .int .u8 nc, .int .i64 nl, .int .i64 nf], .func (.func 34) #[] #[.pointer (some ⟨F, 0, none⟩)]] w fun e w' => e = .returned (.tuple #[]) ∧ Has w' F #[.int .i64 (put (put (put (put (put x (decide (tt = 0) && !decide (nc = 114)) ⟨2, tt, gn, -1⟩) (decide (0 < tt) && !M) ⟨3, tt, gn, -1⟩) (true || O1) ⟨4, tt, gn, -1⟩) (S2 || O2) ⟨5, tt, gn, -1⟩) S3 ⟨6, tt, gn, -1⟩).k, .int .i64 (put (put (put (put (put x (decide (tt = 0) && !decide (nc = 114)) ⟨2, tt, gn, -1⟩) (decide (0 < tt) && !M) ⟨3, tt, gn, -1⟩) (true || O1) ⟨4, tt, gn, -1⟩) (S2 || O2) ⟨5, tt, gn, -1⟩) S3 ⟨6, tt, gn, -1⟩).t, .int .i64 (put (put (put (put (put x (decide (tt = 0) && !decide (nc = 114)) ⟨2, tt, gn, -1⟩) (decide (0 < tt) && !M) ⟨3, tt, gn, -1⟩) (true || O1) ⟨4, tt, gn, -1⟩) (S2 || O2) ⟨5, tt, gn, -1⟩) S3 ⟨6, tt, gn, -1⟩).a, .int .i64 (put (put (put (put (put x (decide (tt = 0) && !decide (nc = 114)) ⟨2, tt, gn, -1⟩) (decide (0 < tt) && !M) ⟨3, tt, gn, -1⟩) (true || O1) ⟨4, tt, gn, -1⟩) (S2 || O2) ⟨5, tt, gn, -1⟩) S3 ⟨6, tt, gn, -1⟩).b] ∧ Only (fun q => q = F) w w' := by
  have hmf : ∀ (fn : Fn) (first cap : Array Value) (w : World), (Instr.makeFunc fn first cap).run Try.prog w = .ok (.func fn first cap) w := fun _ _ _ _ => rfl
  have hsz := hF0.1
  have hF : Has (((w.alloc (.cells #[.int .i64 gn, .int .i64 mi, .int .i64 am, .int .i64 le] 78)).alloc (.cells #[.int .i64 tt, .int .u8 wc, .int .i64 wl, .int .i64 wf, .int .u8 nc, .int .i64 nl, .int .i64 nf] 85)).alloc (.cells #[.func (.func 34) #[] #[.pointer (some ⟨F, 0, none⟩)]] 81)) F #[.int .i64 x.k, .int .i64 x.t, .int .i64 x.a, .int .i64 x.b] := ((hF0.alloc _).alloc _).alloc _
  have hG : Has (((w.alloc (.cells #[.int .i64 gn, .int .i64 mi, .int .i64 am, .int .i64 le] 78)).alloc (.cells #[.int .i64 tt, .int .u8 wc, .int .i64 wl, .int .i64 wf, .int .u8 nc, .int .i64 nl, .int .i64 nf] 85)).alloc (.cells #[.func (.func 34) #[] #[.pointer (some ⟨F, 0, none⟩)]] 81)) w.heap.size #[.int .i64 gn, .int .i64 mi, .int .i64 am, .int .i64 le] := ((Has.new _ _ _ rfl).alloc _).alloc _
  have hT : Has (((w.alloc (.cells #[.int .i64 gn, .int .i64 mi, .int .i64 am, .int .i64 le] 78)).alloc (.cells #[.int .i64 tt, .int .u8 wc, .int .i64 wl, .int .i64 wf, .int .u8 nc, .int .i64 nl, .int .i64 nf] 85)).alloc (.cells #[.func (.func 34) #[] #[.pointer (some ⟨F, 0, none⟩)]] 81)) (w.heap.size + 1) #[.int .i64 tt, .int .u8 wc, .int .i64 wl, .int .i64 wf, .int .u8 nc, .int .i64 nl, .int .i64 nf] := (Has.new _ _ _ (by simp)).alloc _
  have hR : Has (((w.alloc (.cells #[.int .i64 gn, .int .i64 mi, .int .i64 am, .int .i64 le] 78)).alloc (.cells #[.int .i64 tt, .int .u8 wc, .int .i64 wl, .int .i64 wf, .int .u8 nc, .int .i64 nl, .int .i64 nf] 85)).alloc (.cells #[.func (.func 34) #[] #[.pointer (some ⟨F, 0, none⟩)]] 81)) (w.heap.size + 2) #[.func (.func 34) #[] #[.pointer (some ⟨F, 0, none⟩)]] := Has.new _ _ _ (by simp)
  have hO : Only (fun q => q = F) w (((w.alloc (.cells #[.int .i64 gn, .int .i64 mi, .int .i64 am, .int .i64 le] 78)).alloc (.cells #[.int .i64 tt, .int .u8 wc, .int .i64 wl, .int .i64 wf, .int .u8 nc, .int .i64 nl, .int .i64 nf] 85)).alloc (.cells #[.func (.func 34) #[] #[.pointer (some ⟨F, 0, none⟩)]] 81)) := (((Only.refl _ _).alloc _).alloc _).alloc _
  have h49 := fun (W : World) (x : Al) (kind : Int) (b : Bool) a1 a2 a3 a4 => alarm_any x kind tt gn b (w.heap.size + 2) (w.heap.size + 1) w.heap.size F #[.int .i64 tt, .int .u8 wc, .int .i64 wl, .int .i64 wf, .int .u8 nc, .int .i64 nl, .int .i64 nf] #[.int .i64 gn, .int .i64 mi, .int .i64 am, .int .i64 le] W a1 a2 a3 a4 rfl rfl
  have nG : ¬ w.heap.size = F := by omega
  have nT : ¬ w.heap.size + 1 = F := by omega
  have nR : ¬ w.heap.size + 2 = F := by omega
  clear hF0
  generalize hZ : (put (put (put (put (put x (decide (tt = 0) && !decide (nc = 114)) ⟨2, tt, gn, -1⟩) (decide (0 < tt) && !M) ⟨3, tt, gn, -1⟩) (true || O1) ⟨4, tt, gn, -1⟩) (S2 || O2) ⟨5, tt, gn, -1⟩) S3 ⟨6, tt, gn, -1⟩) = Z
  have hZ' : Hid ((put (put (put (put (put x (decide (tt = 0) && !decide (nc = 114)) ⟨2, tt, gn, -1⟩) (decide (0 < tt) && !M) ⟨3, tt, gn, -1⟩) (true || O1) ⟨4, tt, gn, -1⟩) (S2 || O2) ⟨5, tt, gn, -1⟩) S3 ⟨6, tt, gn, -1⟩) = Z) := hZ
  clear hZ
  have g0 : (tt == 0) = false := beq_eq_false_iff_ne.2 (by omega)
  cases S2 with
  | true =>
    go_enter Try.func37, Try.ntmps37
    go_upto_region 1 with fail
    generalize (((w.alloc (.cells #[.int .i64 gn, .int .i64 mi, .int .i64 am, .int .i64 le] 78)).alloc (.cells #[.int .i64 tt, .int .u8 wc, .int .i64 wl, .int .i64 wf, .int .u8 nc, .int .i64 nl, .int .i64 nf] 85)).alloc (.cells #[.func (.func 34) #[] #[.pointer (some ⟨F, 0, none⟩)]] 81)) = V at *
    obtain ⟨_, i1, _⟩ := id hG
    obtain ⟨_, i2, _⟩ := id hT
    obtain ⟨_, i3, _⟩ := id hR
    go_wp2_with (first
        | (go_at_call 49; (with_reducible refine Calls.mono (h49 _ _ _ _ hF hR hT hG) ?_); rintro e w1 ⟨rfl, kF, kO⟩; replace hF := kF; replace hG := hG.only kO nG; replace hT := hT.only kO nT; replace hR := hR.only kO nR; replace hO := hO.trans kO; clear kF kO i1 i2 i3; obtain ⟨_, i1, _⟩ := id hG; obtain ⟨_, i2, _⟩ := id hT; obtain ⟨_, i3, _⟩ := id hR)
        | (go_at_call 50; (with_reducible refine Calls.mono (h50 _) ?_); rintro e w1 ⟨rfl, kb⟩; replace hF := hF.below kb; replace hG := hG.below kb; replace hT := hT.below kb; replace hR := hR.below kb; replace hO := hO.below kb; clear kb i1 i2 i3; obtain ⟨_, i1, _⟩ := id hG; obtain ⟨_, i2, _⟩ := id hT; obtain ⟨_, i3, _⟩ := id hR)
        | (go_at_call 51; (with_reducible refine Calls.mono (s1 _) ?_); rintro e w1 ⟨rfl, kb⟩; replace hF := hF.below kb; replace hG := hG.below kb; replace hT := hT.below kb; replace hR := hR.below kb; replace hO := hO.below kb; clear kb i1 i2 i3; obtain ⟨_, i1, _⟩ := id hG; obtain ⟨_, i2, _⟩ := id hT; obtain ⟨_, i3, _⟩ := id hR)
        | (go_at_call 52; (with_reducible refine Calls.mono (o1 _) ?_); rintro e w1 ⟨rfl, kb⟩; replace hF := hF.below kb; replace hG := hG.below kb; replace hT := hT.below kb; replace hR := hR.below kb; replace hO := hO.below kb; clear kb i1 i2 i3; obtain ⟨_, i1, _⟩ := id hG; obtain ⟨_, i2, _⟩ := id hT; obtain ⟨_, i3, _⟩ := id hR)
        | (go_at_call 51; (with_reducible refine Calls.mono (s2 _) ?_); rintro e w1 ⟨rfl, kb⟩; replace hF := hF.below kb; replace hG := hG.below kb; replace hT := hT.below kb; replace hR := hR.below kb; replace hO := hO.below kb; clear kb i1 i2 i3; obtain ⟨_, i1, _⟩ := id hG; obtain ⟨_, i2, _⟩ := id hT; obtain ⟨_, i3, _⟩ := id hR)
        | (go_at_call 52; (with_reducible refine Calls.mono (o2 _) ?_); rintro e w1 ⟨rfl, kb⟩; replace hF := hF.below kb; replace hG := hG.below kb; replace hT := hT.below kb; replace hR := hR.below kb; replace hO := hO.below kb; clear kb i1 i2 i3; obtain ⟨_, i1, _⟩ := id hG; obtain ⟨_, i2, _⟩ := id hT; obtain ⟨_, i3, _⟩ := id hR)
        | (go_at_call 51; (with_reducible refine Calls.mono (s3 _) ?_); rintro e w1 ⟨rfl, kb⟩; replace hF := hF.below kb; replace hG := hG.below kb; replace hT := hT.below kb; replace hR := hR.below kb; replace hO := hO.below kb; clear kb i1 i2 i3; obtain ⟨_, i1, _⟩ := id hG; obtain ⟨_, i2, _⟩ := id hT; obtain ⟨_, i3, _⟩ := id hR))
    refine ⟨rfl, .tuple #[], ?_, rfl, ?_, hO⟩
    · simp [results, Try.results37, go_sem]
    · have key : ∀ X : Al, X = Z → Has w1 F #[.int .i64 X.k, .int .i64 X.t, .int .i64 X.a, .int .i64 X.b] → Has w1 F #[.int .i64 Z.k, .int .i64 Z.t, .int .i64 Z.a, .int .i64 Z.b] := fun X e h => by subst e; exact h
      refine key _ ?_ hF
      rw [← hZ'.out]
      clear h49 h50 s1 s2 s3 o1 o2 i1 i2 i3 hF hG hT hR hO hmf hZ'
      first | rfl | (simp; done) | (simp [g0]; done) | (have e1 : decide (tt = 0) = false := by simp; omega
                                                        have e2 : decide (0 < tt) = true := by simp [h1]
                                                        rw [e1, e2]; first | rfl | (simp; done))
  | false =>
    go_enter Try.func37, Try.ntmps37
    go_upto_region 1 with fail
    generalize (((w.alloc (.cells #[.int .i64 gn, .int .i64 mi, .int .i64 am, .int .i64 le] 78)).alloc (.cells #[.int .i64 tt, .int .u8 wc, .int .i64 wl, .int .i64 wf, .int .u8 nc, .int .i64 nl, .int .i64 nf] 85)).alloc (.cells #[.func (.func 34) #[] #[.pointer (some ⟨F, 0, none⟩)]] 81)) = V at *
    obtain ⟨_, i1, _⟩ := id hG
    obtain ⟨_, i2, _⟩ := id hT
    obtain ⟨_, i3, _⟩ := id hR
    go_wp2_with (first
        | (go_at_call 49; (with_reducible refine Calls.mono (h49 _ _ _ _ hF hR hT hG) ?_); rintro e w1 ⟨rfl, kF, kO⟩; replace hF := kF; replace hG := hG.only kO nG; replace hT := hT.only kO nT; replace hR := hR.only kO nR; replace hO := hO.trans kO; clear kF kO i1 i2 i3; obtain ⟨_, i1, _⟩ := id hG; obtain ⟨_, i2, _⟩ := id hT; obtain ⟨_, i3, _⟩ := id hR)
        | (go_at_call 50; (with_reducible refine Calls.mono (h50 _) ?_); rintro e w1 ⟨rfl, kb⟩; replace hF := hF.below kb; replace hG := hG.below kb; replace hT := hT.below kb; replace hR := hR.below kb; replace hO := hO.below kb; clear kb i1 i2 i3; obtain ⟨_, i1, _⟩ := id hG; obtain ⟨_, i2, _⟩ := id hT; obtain ⟨_, i3, _⟩ := id hR)
        | (go_at_call 51; (with_reducible refine Calls.mono (s1 _) ?_); rintro e w1 ⟨rfl, kb⟩; replace hF := hF.below kb; replace hG := hG.below kb; replace hT := hT.below kb; replace hR := hR.below kb; replace hO := hO.below kb; clear kb i1 i2 i3; obtain ⟨_, i1, _⟩ := id hG; obtain ⟨_, i2, _⟩ := id hT; obtain ⟨_, i3, _⟩ := id hR)
        | (go_at_call 52; (with_reducible refine Calls.mono (o1 _) ?_); rintro e w1 ⟨rfl, kb⟩; replace hF := hF.below kb; replace hG := hG.below kb; replace hT := hT.below kb; replace hR := hR.below kb; replace hO := hO.below kb; clear kb i1 i2 i3; obtain ⟨_, i1, _⟩ := id hG; obtain ⟨_, i2, _⟩ := id hT; obtain ⟨_, i3, _⟩ := id hR)
        | (go_at_call 51; (with_reducible refine Calls.mono (s2 _) ?_); rintro e w1 ⟨rfl, kb⟩; replace hF := hF.below kb; replace hG := hG.below kb; replace hT := hT.below kb; replace hR := hR.below kb; replace hO := hO.below kb; clear kb i1 i2 i3; obtain ⟨_, i1, _⟩ := id hG; obtain ⟨_, i2, _⟩ := id hT; obtain ⟨_, i3, _⟩ := id hR)
        | (go_at_call 52; (with_reducible refine Calls.mono (o2 _) ?_); rintro e w1 ⟨rfl, kb⟩; replace hF := hF.below kb; replace hG := hG.below kb; replace hT := hT.below kb; replace hR := hR.below kb; replace hO := hO.below kb; clear kb i1 i2 i3; obtain ⟨_, i1, _⟩ := id hG; obtain ⟨_, i2, _⟩ := id hT; obtain ⟨_, i3, _⟩ := id hR)
        | (go_at_call 51; (with_reducible refine Calls.mono (s3 _) ?_); rintro e w1 ⟨rfl, kb⟩; replace hF := hF.below kb; replace hG := hG.below kb; replace hT := hT.below kb; replace hR := hR.below kb; replace hO := hO.below kb; clear kb i1 i2 i3; obtain ⟨_, i1, _⟩ := id hG; obtain ⟨_, i2, _⟩ := id hT; obtain ⟨_, i3, _⟩ := id hR))
    refine ⟨rfl, .tuple #[], ?_, rfl, ?_, hO⟩
    · simp [results, Try.results37, go_sem]
    · have key : ∀ X : Al, X = Z → Has w1 F #[.int .i64 X.k, .int .i64 X.t, .int .i64 X.a, .int .i64 X.b] → Has w1 F #[.int .i64 Z.k, .int .i64 Z.t, .int .i64 Z.a, .int .i64 Z.b] := fun X e h => by subst e; exact h
      refine key _ ?_ hF
      rw [← hZ'.out]
      clear h49 h50 s1 s2 s3 o1 o2 i1 i2 i3 hF hG hT hR hO hmf hZ'
      first | rfl | (simp; done) | (simp [g0]; done) | (have e1 : decide (tt = 0) = false := by simp; omega
                                                        have e2 : decide (0 < tt) = true := by simp [h1]
                                                        rw [e1, e2]; first | rfl | (simp; done))

end Go.Proofs.Ytoaokpmnjppfcaa
