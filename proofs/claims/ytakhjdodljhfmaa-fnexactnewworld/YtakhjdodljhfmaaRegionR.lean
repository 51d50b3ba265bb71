/-
  A whole struct loaded in one step: under a guard that says yes, and in a region that draws its order. (Cell by cell the walk takes minutes from some 18 cells on.) No conditions.
-/
import Derived.Laws.Rows
import Derived.Test.YtakhjdodljhfmaaRegionO
namespace Go.Proofs.Ytakhjdodljhfmaa.Tx
open Go.RowKit

/-- A whole row loaded under a guard that says yes. -/
theorem wpList_load_wanted {P : Program} {ops : Array Oper} {rest : List Oper} {o : Oper} {a : Act} {w : World} {Q : Exit → Act → World → Prop} (hw : Region.wanted o (yielded ops a.tmps) = true) (ty : TypeId) (x : Operand) (ho : o.op = .load ty x)
    (g : Nat) (hx : a.eval x = .pointer (some ⟨g, 0, none⟩)) (t : TypeId) (cs : Array Value) (fr : Nat × Nat) (d : TypeDesc) (hg : w.heap[g]? = some (.cells cs t fr))
    (hu : P.underlying ty = some d) (hd : (match d with | .struct _ | .array _ _ => true | _ => false) = true) (hi : (P.info? ty).map (·.size) = some cs.size)
    (h : wpList P ops Q rest (a.put o.dst (.agg cs)) w) : wpList P ops Q (o :: rest) a w :=
  wpList_wanted hw fun _ hK => wp_load_row ty x ho g hx t cs fr d hg hu hd hi (hK _ _ h)

theorem run_load_row {P : Program} {o : Oper} {a : Act} {w : World} (ty : TypeId) (x : Operand) (ho : o.op = .load ty x) (g : Nat) (hx : a.eval x = .pointer (some ⟨g, 0, none⟩)) (t : TypeId) (cs : Array Value) (fr : Nat × Nat) (d : TypeDesc) (hg : w.heap[g]? = some (.cells cs t fr))
    (hu : P.underlying ty = some d) (hd : (match d with | .struct _ | .array _ _ => true | _ => false) = true) (hi : (P.info? ty).map (·.size) = some cs.size) : (execOp a.eval o).run P w = .ok (.value (.agg cs)) w := by
  unfold execOp
  simp only [ho, hx, Instr.loadAt, Instr.sureAddr, Sem.run_bind, Sem.run_pure, Result.andThen_ok, run_loadVar_row w g t ty cs fr d hg hu hd hi]

/-- A whole row loaded in a region that draws its order, from a block that lay. -/
theorem wpO_load_row {P : Program} {ops : Array Oper} {E : Env} {Q : Act → World → Prop} {kl : List Nat} {o : Oper} {l : List Oper} {G : List Nat} {F : World → Prop} {a : Act} (hw : Region.wanted o (yielded ops a.tmps) = true) (ty : TypeId) (x : Operand) (ho : o.op = .load ty x)
    (g : Nat) (hx : a.eval x = .pointer (some ⟨g, 0, none⟩)) (t : TypeId) (cs : Array Value) (fr : Nat × Nat) (d : TypeDesc) (hg : ∀ q : In E, q.w.heap[g]? = some (.cells cs t fr))
    (hu : P.underlying ty = some d) (hd : (match d with | .struct _ | .array _ _ => true | _ => false) = true) (hi : (P.info? ty).map (·.size) = some cs.size)
    (h : wpO P ops E Q kl l G F (a.put o.dst (.agg cs))) : wpO P ops E Q (0 :: kl) (o :: l) G F a := by
  rw [wpO, if_pos hw]
  refine ⟨by rw [plainOp, ho], .agg cs, fun w hc => ?_, h⟩
  unfold Oper.quietAt
  rw [run_load_row ty x ho g hx t cs fr d (hg ⟨w, hc⟩) hu hd hi]
  exact ⟨rfl, rfl⟩

/-- A whole row loaded in a region that draws its order, from a block of the call's own (kind 3). -/
theorem wpO_read_row {P : Program} {ops : Array Oper} {E : Env} {Q : Act → World → Prop} {kl : List Nat} {o : Oper} {l : List Oper} {G : List Nat} {F : World → Prop} {a : Act} (hw : Region.wanted o (yielded ops a.tmps) = true) (ty : TypeId) (x : Operand) (ho : o.op = .load ty x)
    (g : Nat) (hx : a.eval x = .pointer (some ⟨g, 0, none⟩)) (t : TypeId) (cs : Array Value) (fr : Nat × Nat) (d : TypeDesc) (hS : Stays E F) (hg : ∀ w, E.C w → F w → w.heap[g]? = some (.cells cs t fr))
    (hu : P.underlying ty = some d) (hd : (match d with | .struct _ | .array _ _ => true | _ => false) = true) (hi : (P.info? ty).map (·.size) = some cs.size)
    (h : wpO P ops E Q kl l G F (a.put o.dst (.agg cs))) : wpO P ops E Q (3 :: kl) (o :: l) G F a :=
  wpO_read (.agg cs) hw hS (fun w hc hf => run_load_row ty x ho g hx t cs fr d (hg w hc hf) hu hd hi) h

end Go.Proofs.Ytakhjdodljhfmaa.Tx
