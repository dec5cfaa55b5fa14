import Derived.Test.YtoaokpmnjppfcaaWaE1
import Derived.Test.YtoaokpmnjppfcaaWaE2
import Derived.Test.YtoaokpmnjppfcaaWaE3
import Derived.Test.YtoaokpmnjppfcaaWaE4
namespace Go.Proofs.Ytoaokpmnjppfcaa
open Go.RowKit
set_option linter.unusedVariables false
set_option linter.unusedSimpArgs false

set_option maxRecDepth 100000 in
theorem look_any (x : Al) (gn mi am le tt wc wl wf nc nl nf : Int) (F : Nat) (w : World) (hF0 : Has w F #[.int .i64 x.k, .int .i64 x.t, .int .i64 x.a, .int .i64 x.b]) (ht : 0 ≤ tt) (ha : 0 ≤ am ∧ am ≤ 3600) (hl : 0 ≤ le ∧ le ≤ 3600) :
    Calls Try.prog 37 #[.agg #[.int .i64 gn, .int .i64 mi, .int .i64 am, .int .i64 le], .agg #[.int .i64 tt, .int .u8 wc, .int .i64 wl, .int .i64 wf, .int .u8 nc, .int .i64 nl, .int .i64 nf], .func (.func 34) #[] #[.pointer (some ⟨F, 0, none⟩)]] w fun e w' => e = .returned (.tuple #[]) ∧ Has w' F #[.int .i64 (lkF x ⟨gn, mi, am, le⟩ ⟨tt, ⟨wc, wl, wf⟩, ⟨nc, nl, nf⟩⟩).k, .int .i64 (lkF x ⟨gn, mi, am, le⟩ ⟨tt, ⟨wc, wl, wf⟩, ⟨nc, nl, nf⟩⟩).t, .int .i64 (lkF x ⟨gn, mi, am, le⟩ ⟨tt, ⟨wc, wl, wf⟩, ⟨nc, nl, nf⟩⟩).a, .int .i64 (lkF x ⟨gn, mi, am, le⟩ ⟨tt, ⟨wc, wl, wf⟩, ⟨nc, nl, nf⟩⟩).b] ∧ Only (fun q => q = F) w w' := by
  have h50 := fun W => mayFollow_any gn mi am le wc nc W
  have s1 := fun W => isShort_any tt wc wl wf nc nl nf 97 am W
  have o1 := fun W => isOver_any tt wc wl wf nc nl nf 97 am W ha
  have s2 := fun W => isShort_any tt wc wl wf nc nl nf 108 le W
  have o2 := fun W => isOver_any tt wc wl wf nc nl nf 108 le W hl
  have s3 := fun W => isShort_any tt wc wl wf nc nl nf 103 mi W
  have eL : (lkF x ⟨gn, mi, am, le⟩ ⟨tt, ⟨wc, wl, wf⟩, ⟨nc, nl, nf⟩⟩) = put (put (put (put (put x (decide (tt = 0) && !decide (nc = 114)) ⟨2, tt, gn, -1⟩)
    (decide (0 < tt) && !mfB ⟨gn, mi, am, le⟩ wc nc) ⟨3, tt, gn, -1⟩)
    (shB ⟨tt, ⟨wc, wl, wf⟩, ⟨nc, nl, nf⟩⟩ 97 am || ovB ⟨tt, ⟨wc, wl, wf⟩, ⟨nc, nl, nf⟩⟩ 97 am) ⟨4, tt, gn, -1⟩)
    (shB ⟨tt, ⟨wc, wl, wf⟩, ⟨nc, nl, nf⟩⟩ 108 le || ovB ⟨tt, ⟨wc, wl, wf⟩, ⟨nc, nl, nf⟩⟩ 108 le) ⟨5, tt, gn, -1⟩)
    (shB ⟨tt, ⟨wc, wl, wf⟩, ⟨nc, nl, nf⟩⟩ 103 mi) ⟨6, tt, gn, -1⟩ := rfl
  rw [eL]
  clear eL
  generalize mfB ⟨gn, mi, am, le⟩ wc nc = M at *
  generalize shB ⟨tt, ⟨wc, wl, wf⟩, ⟨nc, nl, nf⟩⟩ 97 am = S1 at *
  generalize ovB ⟨tt, ⟨wc, wl, wf⟩, ⟨nc, nl, nf⟩⟩ 97 am = O1 at *
  generalize shB ⟨tt, ⟨wc, wl, wf⟩, ⟨nc, nl, nf⟩⟩ 108 le = S2 at *
  generalize ovB ⟨tt, ⟨wc, wl, wf⟩, ⟨nc, nl, nf⟩⟩ 108 le = O2 at *
  generalize shB ⟨tt, ⟨wc, wl, wf⟩, ⟨nc, nl, nf⟩⟩ 103 mi = S3 at *
  by_cases h0 : tt = 0
  · subst h0
    cases S1 with
    | true => exact look1_any x gn mi am le wc wl wf nc nl nf M O1 S2 O2 S3 F w hF0 h50 s1 o1 s2 o2 s3
    | false => exact look2_any x gn mi am le wc wl wf nc nl nf M O1 S2 O2 S3 F w hF0 h50 s1 o1 s2 o2 s3
  · cases S1 with
    | true => exact look3_any x gn mi am le tt wc wl wf nc nl nf M O1 S2 O2 S3 F w hF0 (by omega) h50 s1 o1 s2 o2 s3
    | false => exact look4_any x gn mi am le tt wc wl wf nc nl nf M O1 S2 O2 S3 F w hF0 (by omega) h50 s1 o1 s2 o2 s3
end Go.Proofs.Ytoaokpmnjppfcaa
