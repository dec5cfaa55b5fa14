import Derived.Test.YtnicolaphmffkaaDoorRds
import Derived.Test.YtnicolaphmffkaaDoorNesE
namespace Go.Proofs.YtnicolaphmffkaaDoor
open Go.RowKit
set_option linter.unusedVariables false

structure St where
  kind : Int
  name : ByteArray
  ix : Int
  expr : List Nd
  line : Int
  col : Int
structure Nx where
  dst : ByteArray
  cnd : List Nd
  line : Int
  col : Int
structure Sg where
  green : List ByteArray
  enter : List St
  during : List St
  leave : List St
  nexts : List Nx
structure Dc where
  kind : Int
  line : Int
  col : Int
  name : ByteArray
  with_ : ByteArray
  sort : Int
  n0 : Int
  n1 : Int
  n2 : Int
  expr : List Nd
  sg : Sg
structure Pl where
  name : ByteArray
  decls : List Dc

def NdR (S : Nat → Prop) (w : World) (cs : List Value) (x : Nd) : Prop := cs = x.cs
def Exs := Rows 5 2932031007317 NdR
def StR (S : Nat → Prop) (w : World) (cs : List Value) (x : St) : Prop := ∃ v, cs = [.int .i64 x.kind, .string x.name, .int .i64 x.ix, v, .int .i64 x.line, .int .i64 x.col] ∧ Exs S w v x.expr
def NxR (S : Nat → Prop) (w : World) (cs : List Value) (x : Nx) : Prop := ∃ v, cs = [.string x.dst, v, .int .i64 x.line, .int .i64 x.col] ∧ Exs S w v x.cnd
def TxR (S : Nat → Prop) (w : World) (cs : List Value) (x : ByteArray) : Prop := cs = [.string x]
def Sts := Rows 6 1954687338211 StR
def Nxs := Rows 4 2513169434900 NxR
def Txs := Rows 1 8796093022100 TxR
/-- The five lists of a stage. -/
structure SgV where
  green : Value
  enter : Value
  during : Value
  leave : Value
  nexts : Value
def SgR (S : Nat → Prop) (w : World) (s : SgV) (x : Sg) : Prop := Txs S w s.green x.green ∧ Sts S w s.enter x.enter ∧ Sts S w s.during x.during ∧ Sts S w s.leave x.leave ∧ Nxs S w s.nexts x.nexts
def SgV.cs (s : SgV) : List Value := [s.green, s.enter, s.during, s.leave, s.nexts]
/-- A declaration's cells with its lists' values. -/
def Dc.cs (x : Dc) (v : Value) (s : SgV) : List Value :=
  [.int .i64 x.kind, .int .i64 x.line, .int .i64 x.col, .string x.name, .string x.with_, .int .i64 x.sort, .int .i32 x.n0, .int .i32 x.n1, .int .i32 x.n2, v, s.green, s.enter, s.during, s.leave, s.nexts]
def DcR (S : Nat → Prop) (w : World) (cs : List Value) (x : Dc) : Prop := ∃ v s, cs = x.cs v s ∧ Exs S w v x.expr ∧ SgR S w s x.sg
def Dcs := Rows 15 628292358710 DcR
def PlR (S : Nat → Prop) (w : World) (v : Value) (p : Pl) : Prop := ∃ vd, v = .agg #[.string p.name, vd] ∧ Dcs S w vd p.decls

theorem Exs.mv {S S' : Nat → Prop} {w w' : World} {v : Value} {L : List Nd} (h : Exs S w v L) (hm : Mv S w S' w') : Exs S' w' v L := Rows.mv h hm (fun _ _ h => h)
theorem Txs.mv {S S' : Nat → Prop} {w w' : World} {v : Value} {L : List ByteArray} (h : Txs S w v L) (hm : Mv S w S' w') : Txs S' w' v L := Rows.mv h hm (fun _ _ h => h)
theorem StR.mv {S S' : Nat → Prop} {w w' : World} {cs : List Value} {x : St} (h : StR S w cs x) (hm : Mv S w S' w') : StR S' w' cs x := by
  obtain ⟨v, h1, h2⟩ := h; exact ⟨v, h1, h2.mv hm⟩
theorem NxR.mv {S S' : Nat → Prop} {w w' : World} {cs : List Value} {x : Nx} (h : NxR S w cs x) (hm : Mv S w S' w') : NxR S' w' cs x := by
  obtain ⟨v, h1, h2⟩ := h; exact ⟨v, h1, h2.mv hm⟩
theorem Sts.mv {S S' : Nat → Prop} {w w' : World} {v : Value} {L : List St} (h : Sts S w v L) (hm : Mv S w S' w') : Sts S' w' v L := Rows.mv h hm (fun _ _ h => h.mv hm)
theorem Nxs.mv {S S' : Nat → Prop} {w w' : World} {v : Value} {L : List Nx} (h : Nxs S w v L) (hm : Mv S w S' w') : Nxs S' w' v L := Rows.mv h hm (fun _ _ h => h.mv hm)
theorem SgR.mv {S S' : Nat → Prop} {w w' : World} {s : SgV} {x : Sg} (h : SgR S w s x) (hm : Mv S w S' w') : SgR S' w' s x :=
  ⟨h.1.mv hm, h.2.1.mv hm, h.2.2.1.mv hm, h.2.2.2.1.mv hm, h.2.2.2.2.mv hm⟩
theorem DcR.mv {S S' : Nat → Prop} {w w' : World} {cs : List Value} {x : Dc} (h : DcR S w cs x) (hm : Mv S w S' w') : DcR S' w' cs x := by
  obtain ⟨v, s, h1, h2, h3⟩ := h; exact ⟨v, s, h1, h2.mv hm, h3.mv hm⟩
theorem Dcs.mv {S S' : Nat → Prop} {w w' : World} {v : Value} {L : List Dc} (h : Dcs S w v L) (hm : Mv S w S' w') : Dcs S' w' v L := Rows.mv h hm (fun _ _ h => h.mv hm)
theorem PlR.mv {S S' : Nat → Prop} {w w' : World} {v : Value} {p : Pl} (h : PlR S w v p) (hm : Mv S w S' w') : PlR S' w' v p := by
  obtain ⟨vd, h1, h2⟩ := h; exact ⟨vd, h1, h2.mv hm⟩
theorem Exs.below {S : Nat → Prop} {w w' : World} {v : Value} {L : List Nd} (h : Exs S w v L) (hb : Below w.heap.size w w') : Exs S w' v L := h.mv (.below hb)
theorem Txs.below {S : Nat → Prop} {w w' : World} {v : Value} {L : List ByteArray} (h : Txs S w v L) (hb : Below w.heap.size w w') : Txs S w' v L := h.mv (.below hb)
theorem Sts.below {S : Nat → Prop} {w w' : World} {v : Value} {L : List St} (h : Sts S w v L) (hb : Below w.heap.size w w') : Sts S w' v L := h.mv (.below hb)
theorem Nxs.below {S : Nat → Prop} {w w' : World} {v : Value} {L : List Nx} (h : Nxs S w v L) (hb : Below w.heap.size w w') : Nxs S w' v L := h.mv (.below hb)
theorem SgR.below {S : Nat → Prop} {w w' : World} {s : SgV} {x : Sg} (h : SgR S w s x) (hb : Below w.heap.size w w') : SgR S w' s x := h.mv (.below hb)
theorem Dcs.below {S : Nat → Prop} {w w' : World} {v : Value} {L : List Dc} (h : Dcs S w v L) (hb : Below w.heap.size w w') : Dcs S w' v L := h.mv (.below hb)
theorem PlR.below {S : Nat → Prop} {w w' : World} {v : Value} {p : Pl} (h : PlR S w v p) (hb : Below w.heap.size w w') : PlR S w' v p := h.mv (.below hb)

/-- The nodes as NesB reads them. -/
theorem Exs.nds {S : Nat → Prop} {w : World} {v : Value} {L : List Nd} (h : Exs S w v L) : Nds w v L ∧ (v = .slice none 0 0 ∨ ∃ ad cap, v = .slice (some ad) L.length cap) := by
  refine ⟨?_, ?_⟩
  · obtain ⟨a, cap, rfl, _, hc | ⟨g, o, rfl, _, hg, hx⟩⟩ := Rows.any h
    · exact ⟨a, cap, rfl, .inl hc⟩
    · refine ⟨_, cap, rfl, .inr ⟨g, o, rfl, hg, fun i hi => ?_⟩⟩
      obtain ⟨cs, _, rfl, h3⟩ := hx i hi
      exact ⟨h3 0 _ rfl, h3 1 _ rfl, h3 2 _ rfl, h3 3 _ rfl, h3 4 _ rfl⟩
  · rcases Rows.val h with ⟨h, _⟩ | ⟨ad, cap, h, _⟩
    · exact .inl h
    · exact .inr ⟨ad, cap, h⟩

/-- Are two nodes the same but for places? .. -/
def txt (a b : ByteArray) : Bool := a.toList == b.toList
def sameNd (a b : Nd) : Bool := (a.op == b.op) && ((a.val == b.val) && txt a.name b.name)
def sameSt (a b : St) : Bool := (a.kind == b.kind) && (txt a.name b.name && ((a.ix == b.ix) && eqF sameNd a.expr b.expr))
def sameNx (a b : Nx) : Bool := txt a.dst b.dst && eqF sameNd a.cnd b.cnd
def sameSg (a b : Sg) : Bool := eqF txt a.green b.green && (eqF sameSt a.enter b.enter && (eqF sameSt a.during b.during && (eqF sameSt a.leave b.leave && eqF sameNx a.nexts b.nexts)))
def sameDc (a b : Dc) : Bool := (a.kind == b.kind) && (txt a.name b.name && (txt a.with_ b.with_ && ((a.sort == b.sort) && ((a.n0 == b.n0) && ((a.n1 == b.n1) && ((a.n2 == b.n2) && (eqF sameNd a.expr b.expr && sameSg a.sg b.sg)))))))
def samePl (a b : Pl) : Bool := txt a.name b.name && eqF sameDc a.decls b.decls
theorem txt_comm (a b : ByteArray) : txt a b = txt b a := by unfold txt; exact BEq.comm
theorem txt_refl (a : ByteArray) : txt a a = true := by simp [txt]
theorem int_comm (a b : Int) : (a == b) = (b == a) := BEq.comm
theorem sameNd_comm (a b : Nd) : sameNd a b = sameNd b a := by unfold sameNd; rw [int_comm a.op, int_comm a.val, txt_comm a.name]
theorem sameSt_comm (a b : St) : sameSt a b = sameSt b a := by unfold sameSt; rw [int_comm a.kind, txt_comm a.name, int_comm a.ix, eqF_comm _ sameNd_comm]
theorem sameNx_comm (a b : Nx) : sameNx a b = sameNx b a := by unfold sameNx; rw [txt_comm a.dst, eqF_comm _ sameNd_comm]
theorem sameSg_comm (a b : Sg) : sameSg a b = sameSg b a := by
  unfold sameSg; rw [eqF_comm _ txt_comm, eqF_comm _ sameSt_comm a.enter, eqF_comm _ sameSt_comm a.during, eqF_comm _ sameSt_comm a.leave, eqF_comm _ sameNx_comm]
theorem sameDc_comm (a b : Dc) : sameDc a b = sameDc b a := by
  unfold sameDc; rw [int_comm a.kind, txt_comm a.name, txt_comm a.with_, int_comm a.sort, int_comm a.n0, int_comm a.n1, int_comm a.n2, eqF_comm _ sameNd_comm, sameSg_comm]
theorem samePl_comm (a b : Pl) : samePl a b = samePl b a := by unfold samePl; rw [txt_comm a.name, eqF_comm _ sameDc_comm]
/-- Without its places. -/
def bareNd (a : Nd) : Nd := ⟨a.op, a.val, a.name, 0, 0⟩
def bareSt (a : St) : St := ⟨a.kind, a.name, a.ix, a.expr.map bareNd, 0, 0⟩
def bareNx (a : Nx) : Nx := ⟨a.dst, a.cnd.map bareNd, 0, 0⟩
def bareSg (a : Sg) : Sg := ⟨a.green, a.enter.map bareSt, a.during.map bareSt, a.leave.map bareSt, a.nexts.map bareNx⟩
def bareDc (a : Dc) : Dc := ⟨a.kind, 0, 0, a.name, a.with_, a.sort, a.n0, a.n1, a.n2, a.expr.map bareNd, bareSg a.sg⟩
def barePl (a : Pl) : Pl := ⟨a.name, a.decls.map bareDc⟩
theorem same_bareNd (a : Nd) : sameNd a (bareNd a) = true := by simp [sameNd, bareNd, txt_refl]
theorem same_bareSt (a : St) : sameSt a (bareSt a) = true := by simp [sameSt, bareSt, txt_refl, eqF_map sameNd bareNd same_bareNd]
theorem same_bareNx (a : Nx) : sameNx a (bareNx a) = true := by simp [sameNx, bareNx, txt_refl, eqF_map sameNd bareNd same_bareNd]
theorem same_bareSg (a : Sg) : sameSg a (bareSg a) = true := by
  simp [sameSg, bareSg, eqF_map sameSt bareSt same_bareSt, eqF_map sameNx bareNx same_bareNx, eqF_refl txt txt_refl]
theorem same_bareDc (a : Dc) : sameDc a (bareDc a) = true := by simp [sameDc, bareDc, txt_refl, eqF_map sameNd bareNd same_bareNd, same_bareSg]
theorem same_barePl (a : Pl) : samePl a (barePl a) = true := by simp [samePl, barePl, txt_refl, eqF_map sameDc bareDc same_bareDc]
end Go.Proofs.YtnicolaphmffkaaDoor
