/-
  Small facts on worlds that the texts of this seat share: nothing of the program is named here. No conditions.
-/
import Derived.WalkKit
import Derived.Deep.Draws
namespace Go.Proofs.Ytakhjdodljhfmaa.Tx
open Go.RowKit

/-- The world has moved on and nothing that lay has turned. -/
structure Kp (w w' : World) : Prop where
  bel : Below w.heap.size w w'
theorem Kp.start {w : World} : Kp w w := ⟨Below.refl _ _⟩
theorem Kp.go {w w1 w2 : World} (h : Kp w w1) (b : Below w1.heap.size w1 w2) : Kp w w2 := ⟨h.bel.trans (b.mono h.bel.size)⟩
theorem Kp.alloc {w w1 : World} (h : Kp w w1) (o : Obj) : Kp w (w1.alloc o) := ⟨h.bel.alloc h.bel.size o⟩
theorem Kp.drewN {w w1 : World} (h : Kp w w1) (q : Nat) : Kp w (w1.drewN q) := ⟨⟨h.bel.os, h.bel.tape, h.bel.output, h.bel.size, h.bel.block⟩⟩
theorem drewN_below {B : Nat} {a w : World} (h : Below B a w) (n : Nat) : Below B a (w.drewN n) := ⟨h.os, h.tape, h.output, h.size, h.block⟩
theorem ret_int {k : IntKind} {a b : Int} (h : a = b) : Ending.returned (.int k a) = .returned (.int k b) := by rw [h]

/-- What lay reads as it did: two rules for the walk. -/
theorem bcell {W w1 : World} (hb : Below W.heap.size W w1) : (∀ b o, b < W.heap.size → w1.cell? ⟨b, o, none⟩ = W.cell? ⟨b, o, none⟩) ∧ (∀ b o, b < W.heap.size → w1.frozen? ⟨b, o, none⟩ = W.frozen? ⟨b, o, none⟩) :=
  ⟨fun b o h => hb.cell (p := ⟨b, o, none⟩) h, fun b o h => hb.frozen (p := ⟨b, o, none⟩) h⟩

/-- The cells from k on of block g, set one after the other. -/
def setAll (w : World) (g : Nat) : Nat → List Value → World
  | _, [] => w
  | k, v :: r => setAll (w.setCell ⟨g, k, none⟩ v) g (k + 1) r
theorem setAll_below {B : Nat} {a : World} {g : Nat} (hg : B ≤ g) : ∀ (vs : List Value) (k : Nat) {w : World}, Below B a w → Below B a (setAll w g k vs)
  | [], _, _, h => h
  | v :: r, k, _, h => setAll_below hg r (k + 1) (h.setCell (p := ⟨g, k, none⟩) hg v)
theorem setAll_far {g : Nat} : ∀ (vs : List Value) (k : Nat) {w : World} {p : Addr}, (p.block ≠ g ∨ p.off < k) → (setAll w g k vs).cell? p = w.cell? p
  | [], _, _, _, _ => rfl
  | v :: r, k, w, p, h => by
    rw [setAll, setAll_far r (k + 1) (by rcases h with h | h; exact .inl h; exact .inr (by omega))]
    refine World.cell?_setCell_other _ _ _ _ (fun e => ?_)
    subst e
    rcases h with h | h
    · exact h rfl
    · exact Nat.lt_irrefl _ h
theorem setAll_cell {g : Nat} : ∀ (vs : List Value) (k : Nat) {w : World}, (∀ i, i < vs.length → (w.cell? ⟨g, k + i, none⟩).isSome = true) → ∀ i v, vs[i]? = some v → (setAll w g k vs).cell? ⟨g, k + i, none⟩ = some v
  | [], _, _, _, _, _, h => by simp at h
  | v :: r, k, w, hs, 0, x, h => by
    simp at h
    subst h
    rw [setAll, setAll_far r (k + 1) (.inr (by show k + 0 < k + 1; omega))]
    exact World.cell?_setCell_same' _ _ _ (hs 0 (by simp))
  | v :: r, k, w, hs, i + 1, x, h => by
    have h' : r[i]? = some x := by simpa using h
    have := setAll_cell r (k + 1) (w := w.setCell ⟨g, k, none⟩ v) (fun j hj => by
      rw [World.cell?_setCell_other _ _ _ _ (fun e => by have := congrArg Addr.off e; simp at this; omega)]
      have := hs (j + 1) (by simp; omega)
      rwa [show k + 1 + j = k + (j + 1) by omega]) i x h'
    rw [setAll, show k + (i + 1) = k + 1 + i by omega]
    exact this
theorem set4_cell {w : World} {g : Nat} (h : ∀ i, i < 4 → (w.cell? ⟨g, i, none⟩).isSome = true) (v0 v1 v2 v3 : Value) :
    ((((w.setCell ⟨g, 0, none⟩ v0).setCell ⟨g, 1, none⟩ v1).setCell ⟨g, 2, none⟩ v2).setCell ⟨g, 3, none⟩ v3).cell? ⟨g, 0, none⟩ = some v0 ∧
    ((((w.setCell ⟨g, 0, none⟩ v0).setCell ⟨g, 1, none⟩ v1).setCell ⟨g, 2, none⟩ v2).setCell ⟨g, 3, none⟩ v3).cell? ⟨g, 1, none⟩ = some v1 ∧
    ((((w.setCell ⟨g, 0, none⟩ v0).setCell ⟨g, 1, none⟩ v1).setCell ⟨g, 2, none⟩ v2).setCell ⟨g, 3, none⟩ v3).cell? ⟨g, 2, none⟩ = some v2 ∧
    ((((w.setCell ⟨g, 0, none⟩ v0).setCell ⟨g, 1, none⟩ v1).setCell ⟨g, 2, none⟩ v2).setCell ⟨g, 3, none⟩ v3).cell? ⟨g, 3, none⟩ = some v3 := by
  have S := setAll_cell (g := g) [v0, v1, v2, v3] 0 (w := w) (fun i hi => by rw [Nat.zero_add]; exact h i hi)
  exact ⟨S 0 _ rfl, S 1 _ rfl, S 2 _ rfl, S 3 _ rfl⟩
theorem below_set4 {B : Nat} {a w : World} (h : Below B a w) {g : Nat} (hg : B ≤ g) (v0 v1 v2 v3 : Value) :
    Below B a ((((w.setCell ⟨g, 0, none⟩ v0).setCell ⟨g, 1, none⟩ v1).setCell ⟨g, 2, none⟩ v2).setCell ⟨g, 3, none⟩ v3) := setAll_below hg [v0, v1, v2, v3] 0 h
/-- Behind new blocks and a callee that leaves what lay. -/
theorem below_new1 {w w1 : World} {o : Obj} (hb : Below (w.alloc o).heap.size (w.alloc o) w1) : Below w.heap.size w w1 := ((Below.refl _ w).alloc (Nat.le_refl _) o).trans (hb.mono (by simp))
theorem below_new2 {w w1 : World} {o o' : Obj} (hb : Below ((w.alloc o).alloc o').heap.size ((w.alloc o).alloc o') w1) : Below w.heap.size w w1 := below_new1 (below_new1 hb)

theorem blk_cell {w : World} {g : Nat} {cs : Array Value} {t : TypeId} (h : w.heap[g]? = some (.cells cs t (0, 0))) (i : Nat) : w.cell? ⟨g, i, none⟩ = cs[i]? := by simp [World.cell?, h]
theorem blk_frozen {w : World} {g : Nat} {cs : Array Value} {t : TypeId} (h : w.heap[g]? = some (.cells cs t (0, 0))) (i : Nat) : w.frozen? ⟨g, i, none⟩ = false := by simp [World.frozen?, h]
theorem blk4 {w : World} {g : Nat} {v0 v1 v2 v3 : Value} {t : TypeId} (h : w.heap[g]? = some (.cells #[v0, v1, v2, v3] t (0, 0))) :
    (w.cell? ⟨g, 0, none⟩ = some v0 ∧ w.cell? ⟨g, 1, none⟩ = some v1 ∧ w.cell? ⟨g, 2, none⟩ = some v2 ∧ w.cell? ⟨g, 3, none⟩ = some v3) ∧
    (w.frozen? ⟨g, 0, none⟩ = false ∧ w.frozen? ⟨g, 1, none⟩ = false ∧ w.frozen? ⟨g, 2, none⟩ = false ∧ w.frozen? ⟨g, 3, none⟩ = false) :=
  ⟨⟨blk_cell h 0, blk_cell h 1, blk_cell h 2, blk_cell h 3⟩, blk_frozen h 0, blk_frozen h 1, blk_frozen h 2, blk_frozen h 3⟩
theorem far_cell {w : World} {p : Addr} {u : Value} {g i : Nat} (h : g ≠ p.block) : (w.setCell p u).cell? ⟨g, i, none⟩ = w.cell? ⟨g, i, none⟩ := World.cell?_setCell_other _ _ _ _ (fun e => h (by rw [e]))
theorem heap1 (w : World) (o : Obj) : (w.alloc o).heap[w.heap.size]? = some o := heap_alloc_new w o
theorem heap2a (w : World) (o o' : Obj) : ((w.alloc o).alloc o').heap[w.heap.size]? = some o := (Below.heap_alloc (w.alloc o) o' w.heap.size (by simp)).trans (heap_alloc_new w o)
theorem heap2b (w : World) (o o' : Obj) : ((w.alloc o).alloc o').heap[w.heap.size + 1]? = some o' := by have := heap_alloc_new (w.alloc o) o'; rwa [World.size_alloc] at this

/-- An operation whose guard says yes is carried out as any other. -/
theorem wpList_wanted {P : Program} {ops : Array Oper} {Q : Exit → Act → World → Prop} {a : Act} {w : World} {rest : List Oper} {o : Oper} (hw : Region.wanted o (yielded ops a.tmps) = true)
    (h : ∀ K : Act → World → Prop, (∀ a w, wpList P ops Q rest a w → K a w) → o.wp P a w K Q) : wpList P ops Q (o :: rest) a w :=
  wpList_step fun K hK => by rw [if_pos hw]; exact h K hK
/-- append onto a row of the call's own, under a guard that says yes. -/
theorem wpList_append_wanted {P : Program} {w : World} {ops : Array Oper} {rest : List Oper} {o : Oper} {a : Act} {Q : Exit → Act → World → Prop} (hw : Region.wanted o (yielded ops a.tmps) = true) (s x : Operand) (t : TypeId)
    (ho : o.op = .call { callee := .builtin .append, args := #[s, x], argTypes := #[t, t] })
    (base : Nat) (e : TypeId) (i : TypeInfo) (z : Value) (size bytes : Nat) (ht : P.underlying t = some (.slice e)) (hi : P.info? e = some i) (hz : i.zero = some z)
    (hsize : i.size = size) (hby : i.bytes = bytes) (hzs : z.cells.size = size) (hsz : 0 < size)
    (v : Value) (n : Nat) (xs : List Value) (hs : a.eval s = v) (hown : w.ownsRow base e size v n xs)
    (ad : Addr) (m c : Nat) (news : List Value) (hx : a.eval x = .slice (some ad) m c) (hl : news.length = m * size) (hnews : ∀ j u, news[j]? = some u → w.cell? (ad.add j) = some u) (h1 : ∀ u ∈ news, u.oneCell' = true)
    (h63 : n + m ≤ maxLen) (hbytes : (n + m) * bytes ≤ 140737488355328) (hbase : base ≤ w.heap.size)
    (h : ∀ v' w', w'.ownsRow base e size v' (n + m) (xs ++ news) → w.grownBy w' v.ownBlock → (v' = .slice none 0 0 ↔ v = .slice none 0 0 ∧ m = 0) → wpList P ops Q rest (a.put o.dst v') w') : wpList P ops Q (o :: rest) a w :=
  wpList_wanted hw fun _ hK => wp_append_own w s x t ho base e i z size bytes ht hi hz hsize hby hzs hsz v n xs hs hown ad m c news hx hl hnews h1 h63 hbytes hbase fun v' w' h2 h3 h4 => hK _ _ (h v' w' h2 h3 h4)

end Go.Proofs.Ytakhjdodljhfmaa.Tx
