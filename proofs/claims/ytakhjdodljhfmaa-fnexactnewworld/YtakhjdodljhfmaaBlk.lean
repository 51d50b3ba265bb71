/-
  Small facts on blocks that are known whole: their cells, one behind the other set anew; a function whose result lies in such a block. Nothing of the program is named here. No conditions.
-/
import Derived.WalkKit
import Derived.Laws.Rows
import Derived.Laws.ResultCell
import Derived.Test.YtakhjdodljhfmaaLow
namespace Go.Proofs.Ytakhjdodljhfmaa.Tx
open Go.RowKit

theorem alloc_blk {w : World} {o : Obj} {g : Nat} {x : Obj} (h : w.heap[g]? = some x) : (w.alloc o).heap[g]? = some x := by
  rw [Below.heap_alloc w o g (Array.getElem?_eq_some_iff.mp h).1]; exact h
theorem blk_in {w : World} {g : Nat} {x : Obj} (h : w.heap[g]? = some x) : g < w.heap.size := (Array.getElem?_eq_some_iff.mp h).1
theorem blk_on {w w1 : World} {g : Nat} {x : Obj} (b : Below w.heap.size w w1) (h : w.heap[g]? = some x) : w1.heap[g]? = some x := (b.block g (blk_in h)).trans h
theorem blk_put {w : World} {b i : Nat} {cs : Array Value} {t : TypeId} (hb : w.heap[b]? = some (.cells cs t (0, 0))) (u : Value) : (w.setCell ⟨b, i, none⟩ u).heap[b]? = some (.cells (cs.setIfInBounds i u) t (0, 0)) := by
  simp [World.setCell, Array.getElem?_modify, hb]
theorem blk_away {w : World} {b : Nat} {o : Obj} {p : Addr} {u : Value} (hb : w.heap[b]? = some o) (hne : b ≠ p.block) : (w.setCell p u).heap[b]? = some o := (Below.heap_setCell w p u b hne).trans hb

/-- The cells from k on set anew. -/
def overA (cs : Array Value) : Nat → List Value → Array Value
  | _, [] => cs
  | k, v :: r => overA (cs.setIfInBounds k v) (k + 1) r
theorem setAll_blk {g : Nat} {t : TypeId} : ∀ (vs : List Value) (k : Nat) {w : World} {cs : Array Value}, w.heap[g]? = some (.cells cs t (0, 0)) → (setAll w g k vs).heap[g]? = some (.cells (overA cs k vs) t (0, 0))
  | [], _, _, _, h => h
  | v :: r, k, _, _, h => setAll_blk r (k + 1) (blk_put h v)
theorem setAll_away {g : Nat} {b : Nat} {o : Obj} (hne : b ≠ g) : ∀ (vs : List Value) (k : Nat) {w : World}, w.heap[b]? = some o → (setAll w g k vs).heap[b]? = some o
  | [], _, _, h => h
  | _ :: r, k, _, h => setAll_away hne r (k + 1) (blk_away h hne)

theorem overA_toList : ∀ (vs : List Value) (k : Nat) (cs : Array Value), k + vs.length ≤ cs.size → (overA cs k vs).toList = cs.toList.take k ++ (vs ++ cs.toList.drop (k + vs.length))
  | [], k, cs, _ => by simp [overA]
  | v :: r, k, cs, h => by
    rw [List.length_cons] at h
    rw [overA, overA_toList r (k + 1) _ (by rw [Array.size_setIfInBounds]; omega), Array.toList_setIfInBounds]
    have hk : k < cs.toList.length := by rw [Array.length_toList]; omega
    rw [List.take_set, List.drop_set_of_lt (by omega), List.take_succ_eq_append_getElem hk, List.length_cons]
    rw [List.set_append_right _ _ (by simp; omega)]
    have e : k - (cs.toList.take k).length = 0 := by rw [List.length_take]; omega
    rw [e, List.set_cons_zero, show k + 1 + r.length = k + (r.length + 1) by omega]
    simp
theorem overA_all {vs : List Value} {cs : Array Value} (h : vs.length = cs.size) : overA cs 0 vs = vs.toArray := by
  apply Array.toList_inj.1
  rw [overA_toList vs 0 cs (by omega), Nat.zero_add]
  simp [h]
/-- All cells of a block set anew. -/
theorem setAll_whole {w : World} {g : Nat} {t : TypeId} {vs : List Value} {cs : Array Value} (hb : w.heap[g]? = some (.cells cs t (0, 0))) (hl : vs.length = cs.size) : (setAll w g 0 vs).heap[g]? = some (.cells vs.toArray t (0, 0)) := by
  rw [setAll_blk vs 0 hb, overA_all hl]

/-- The end of a function whose result lies in a block that is known whole. -/
theorem row_ret {P : Program} {R : Ending → World → Prop} {fn : Func} {a : Act} {w : World} {r : Nat} {p : Tmp} {ty t : TypeId} {cs : Array Value} {d : TypeDesc} (hres : fn.results = #[.cell p ty]) (hp : a.tmps.getD p undef = .pointer (some ⟨r, 0, none⟩))
    (hblk : w.heap[r]? = some (.cells cs t (0, 0))) (hu : P.underlying ty = some d) (hd : (match d with | .struct _ | .array _ _ => true | _ => false) = true) (hi : (P.info? ty).map (·.size) = some cs.size) (hdf : a.defers = [])
    (h : R (.returned (.agg cs)) w) : bodyPost P fn R .ret a w :=
  bodyPost_ret (v := .agg cs) (results_cell_row hres _ w r t cs (0, 0) d hp hblk hu hd hi) hdf h
/-- .. and a second one in a slot. -/
theorem row_ret2 {P : Program} {R : Ending → World → Prop} {fn : Func} {a : Act} {w : World} {r : Nat} {p q : Tmp} {ty t : TypeId} {cs : Array Value} {d : TypeDesc} {v : Value} (hres : fn.results = #[.cell p ty, .tmp q]) (hp : a.tmps.getD p undef = .pointer (some ⟨r, 0, none⟩)) (hq : a.tmps.getD q undef = v)
    (hblk : w.heap[r]? = some (.cells cs t (0, 0))) (hu : P.underlying ty = some d) (hd : (match d with | .struct _ | .array _ _ => true | _ => false) = true) (hi : (P.info? ty).map (·.size) = some cs.size) (hdf : a.defers = [])
    (h : R (.returned (.tuple #[.agg cs, v])) w) : bodyPost P fn R .ret a w := by
  refine bodyPost_ret (v := .tuple #[.agg cs, v]) ?_ hdf h
  rw [results_cell_tmp hres, hp, hq]
  simp [asAddr, run_loadVar_row w r t ty cs (0, 0) d hblk hu hd hi]

/-- Three results: the first in a block, the others in slots. -/
theorem row_ret3 {P : Program} {R : Ending → World → Prop} {fn : Func} {a : Act} {w : World} {r : Nat} {p q q' : Tmp} {ty t : TypeId} {cs : Array Value} {d : TypeDesc} {v v' : Value} (hres : fn.results = #[.cell p ty, .tmp q, .tmp q']) (hp : a.tmps.getD p undef = .pointer (some ⟨r, 0, none⟩)) (hq : a.tmps.getD q undef = v) (hq' : a.tmps.getD q' undef = v')
    (hblk : w.heap[r]? = some (.cells cs t (0, 0))) (hu : P.underlying ty = some d) (hd : (match d with | .struct _ | .array _ _ => true | _ => false) = true) (hi : (P.info? ty).map (·.size) = some cs.size) (hdf : a.defers = [])
    (h : R (.returned (.tuple #[.agg cs, v, v'])) w) : bodyPost P fn R .ret a w := by
  refine bodyPost_ret (v := .tuple #[.agg cs, v, v']) ?_ hdf h
  have hp' : a.tmps[p]?.getD undef = .pointer (some ⟨r, 0, none⟩) := by simpa using hp
  have hq1 : a.tmps[q]?.getD undef = v := by simpa using hq
  have hq2 : a.tmps[q']?.getD undef = v' := by simpa using hq'
  simp [results, hres, hp', hq1, hq2, asAddr, run_loadVar_row w r t ty cs (0, 0) d hblk hu hd hi]
/-- Three results: two in blocks, the last in a slot. -/
theorem row_ret21 {P : Program} {R : Ending → World → Prop} {fn : Func} {a : Act} {w : World} {r r' : Nat} {p p' q : Tmp} {ty t ty' t' : TypeId} {cs cs' : Array Value} {d d' : TypeDesc} {v : Value} (hres : fn.results = #[.cell p ty, .cell p' ty', .tmp q]) (hp : a.tmps.getD p undef = .pointer (some ⟨r, 0, none⟩)) (hp' : a.tmps.getD p' undef = .pointer (some ⟨r', 0, none⟩)) (hq : a.tmps.getD q undef = v)
    (hblk : w.heap[r]? = some (.cells cs t (0, 0))) (hu : P.underlying ty = some d) (hd : (match d with | .struct _ | .array _ _ => true | _ => false) = true) (hi : (P.info? ty).map (·.size) = some cs.size)
    (hblk' : w.heap[r']? = some (.cells cs' t' (0, 0))) (hu' : P.underlying ty' = some d') (hd' : (match d' with | .struct _ | .array _ _ => true | _ => false) = true) (hi' : (P.info? ty').map (·.size) = some cs'.size) (hdf : a.defers = [])
    (h : R (.returned (.tuple #[.agg cs, .agg cs', v])) w) : bodyPost P fn R .ret a w := by
  refine bodyPost_ret (v := .tuple #[.agg cs, .agg cs', v]) ?_ hdf h
  have h1 : a.tmps[p]?.getD undef = .pointer (some ⟨r, 0, none⟩) := by simpa using hp
  have h2 : a.tmps[p']?.getD undef = .pointer (some ⟨r', 0, none⟩) := by simpa using hp'
  have h3 : a.tmps[q]?.getD undef = v := by simpa using hq
  simp [results, hres, h1, h2, h3, asAddr, run_loadVar_row w r t ty cs (0, 0) d hblk hu hd hi, run_loadVar_row w r' t' ty' cs' (0, 0) d' hblk' hu' hd' hi']
/-- Two results, each in a block. -/
theorem row_ret_two {P : Program} {R : Ending → World → Prop} {fn : Func} {a : Act} {w : World} {r r' : Nat} {p p' : Tmp} {ty t ty' t' : TypeId} {cs cs' : Array Value} {d d' : TypeDesc} (hres : fn.results = #[.cell p ty, .cell p' ty']) (hp : a.tmps.getD p undef = .pointer (some ⟨r, 0, none⟩)) (hp' : a.tmps.getD p' undef = .pointer (some ⟨r', 0, none⟩))
    (hblk : w.heap[r]? = some (.cells cs t (0, 0))) (hu : P.underlying ty = some d) (hd : (match d with | .struct _ | .array _ _ => true | _ => false) = true) (hi : (P.info? ty).map (·.size) = some cs.size)
    (hblk' : w.heap[r']? = some (.cells cs' t' (0, 0))) (hu' : P.underlying ty' = some d') (hd' : (match d' with | .struct _ | .array _ _ => true | _ => false) = true) (hi' : (P.info? ty').map (·.size) = some cs'.size) (hdf : a.defers = [])
    (h : R (.returned (.tuple #[.agg cs, .agg cs'])) w) : bodyPost P fn R .ret a w := by
  refine bodyPost_ret (v := .tuple #[.agg cs, .agg cs']) ?_ hdf h
  have h1 : a.tmps[p]?.getD undef = .pointer (some ⟨r, 0, none⟩) := by simpa using hp
  have h2 : a.tmps[p']?.getD undef = .pointer (some ⟨r', 0, none⟩) := by simpa using hp'
  simp [results, hres, h1, h2, asAddr, run_loadVar_row w r t ty cs (0, 0) d hblk hu hd hi, run_loadVar_row w r' t' ty' cs' (0, 0) d' hblk' hu' hd' hi']

theorem blk2 {w : World} {g : Nat} {v0 v1 : Value} {t : TypeId} (h : w.heap[g]? = some (.cells #[v0, v1] t (0, 0))) :
    (w.cell? ⟨g, 0, none⟩ = some v0 ∧ w.cell? ⟨g, 1, none⟩ = some v1) ∧ w.frozen? ⟨g, 0, none⟩ = false ∧ w.frozen? ⟨g, 1, none⟩ = false :=
  ⟨⟨blk_cell h 0, blk_cell h 1⟩, blk_frozen h 0, blk_frozen h 1⟩

end Go.Proofs.Ytakhjdodljhfmaa.Tx
