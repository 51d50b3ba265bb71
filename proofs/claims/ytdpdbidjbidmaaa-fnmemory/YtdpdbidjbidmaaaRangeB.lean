/-
  A range over a method value (an iterator with its receiver bound to it) whose body changes nothing as long as it goes on, and stores one value into one cell where it returns. No condition but those of the theorem.
-/
import Derived.RangeFuncNested
import Derived.RangeFuncBound
import Derived.RangeFuncCalls
import Derived.RangeFuncLeaves
import Derived.Shelf.Abstract
import Derived.WalkKit
import Derived.OwnWalkIn
import Derived.Deep.Draws
namespace Go.Proofs.Ytdpdbidjbidmaaa.Tx
open Go.RowKit

theorem put_put (W : World) (l : Nat) (o o' : Obj) : (W.putObj l o).putObj l o' = W.putObj l o' := by
  simp [World.putObj]
theorem put_same (W : World) (l : Nat) (o : Obj) (h : W.heap[l]? = some o) : W.putObj l o = W := by
  obtain ⟨hl, he⟩ := Array.getElem?_eq_some_iff.1 h
  unfold World.putObj
  congr 1
  apply Array.ext_getElem?
  intro i
  rw [Array.getElem?_setIfInBounds]
  by_cases e : l = i
  · subst e; rw [if_pos rfl, if_pos hl, h]
  · rw [if_neg e]

/-- How such a body may be left. -/
def quietPost (go : Bool) (B : Nat) (v : Value) (W : World) : Exit → Act → World → Prop
  | .normal, _, W' => go = true ∧ W' = W
  | .ret, _, W' => go = false ∧ W' = W.setCell ⟨B, 0, none⟩ v
  | .exit _, _, _ => False
  | .goto _, _, _ => False
  | .panic _, _, _ => False
  | .outgrown, _, _ => False

/-- What the iterator does, whatever a round that says no has come to (St): it goes through; or it is told to stop. -/
def Walks {α : Type} (n : Nat) (P : Program) (gf : Nat) (bd : Array Value) (encs : α → Array Value) (go : α → Bool) (S Sx : Prop) (w : World) : Prop :=
  ∀ (l : Nat) (St : World → World → Prop) (W : World), Below w.heap.size w W →
    (∀ q x, YieldAt Fence.wide (n - 1) P l (encs x) (W.drewN q) fun e W' => e = .returned (.bool (go x)) ∧ ((go x = true ∧ W' = W.drewN q) ∨ (go x = false ∧ St (W.drewN q) W'))) →
    CallsIn Fence.wide n P gf (bd ++ #[.func (.yield l) #[] #[]]) W fun e W' => (∃ v, e = .returned v) ∧ ((S ∧ ∃ q, W' = W.drewN q) ∨ (Sx ∧ ∃ q, St (W.drewN q) W'))

theorem range_bound {α : Type} {P : Program} {n : Nat} {g : Operand} {ps : Array Tmp} {assign body : Code} {Q : Exit → Act → World → Prop} {a : Act} {w : World}
    (h1 : 1 ≤ n) {gf : Nat} {bd : Array Value} (hg : a.eval g = .func (.func gf) bd #[]) (eg : ∀ args w, (callFunc gf args).run P w = .ok (.enter gf args) w)
    {encs : α → Array Value} (hps : ∀ x, (encs x).size = ps.size) {go : α → Bool} {S Sx : Prop} (hit : Walks (n - 1) P gf bd encs go S Sx w) (a₁ : α → Act) (B : Nat) (v : Value) (hB : B < w.heap.size)
    (hassign : ∀ (l : Nat) (x : α) (W : World) (K : Act → World → Prop), K (a₁ x) W →
      assign.wpIn (Fence.wide.inRound l) (n - 1 - 1) P (Exit.then K (fun _ _ _ => False)) { tmps := (ps.zip (encs x)).foldl (fun t (p, v) => t.setIfInBounds p v) a.tmps, defers := [] } W)
    (hbody : ∀ (l : Nat) (x : α) (W : World), Below w.heap.size w W → body.wpIn (Fence.wide.inRound l) (n - 1 - 1) P (quietPost (go x) B v W) (a₁ x) W)
    (hdone : ∀ (D : Nat) (W : World), w.heap.size ≤ D → S → Below w.heap.size w W → W.heap[D]? = some (.deferred (some [])) → Q .normal { a with defers := { target := .collected D, args := #[] } :: a.defers } W)
    (hstop : ∀ (D : Nat) (W : World), w.heap.size ≤ D → Sx → Below w.heap.size (w.setCell ⟨B, 0, none⟩ v) W → W.heap[D]? = some (.deferred (some [])) → Code.ret.wpIn Fence.wide n P Q { a with defers := { target := .collected D, args := #[] } :: a.defers } W) :
    (Code.rangeFunc g ps assign body).wpIn Fence.wide n P Q a w := by
  refine wpIn_rangeFunc ?_
  intro fn hfn
  obtain ⟨rc, hrc⟩ : ∃ rc : LoopState → Option Code → Loop, rc = fun st pe => { state := st, pending := pe, fn, tmps := a.tmps, params := ps, assign, body, defers := w.heap.size } := ⟨_, rfl⟩
  obtain ⟨W1, hW1⟩ : ∃ W1, W1 = (w.alloc (.deferred (some []))).alloc (.loop (rc .ready none)) := ⟨_, rfl⟩
  have hb1 : Below w.heap.size w W1 := by rw [hW1]; exact ((Below.refl _ w).alloc (Nat.le_refl _) _).alloc (by simp) _
  have hl1 : W1.heap[w.heap.size + 1]? = some (.loop (rc .ready none)) := by
    rw [hW1]; have h := World.alloc_heap_new (w.alloc (.deferred (some []))) (.loop (rc .ready none)); rwa [World.size_alloc] at h
  have hd1 : W1.heap[w.heap.size]? = some (.deferred (some [])) := by
    rw [hW1]; exact (Below.heap_alloc _ _ _ (by simp)).trans (World.alloc_heap_new w _)
  have hlt1 : w.heap.size + 1 < W1.heap.size := (Array.getElem?_eq_some_iff.1 hl1).1
  refine ⟨w.heap.size + 1, [{ target := .collected w.heap.size, args := #[] }], W1, { target := .fn (.func gf) #[], args := bd ++ #[.func (.yield (w.heap.size + 1)) #[] #[]] }, W1, gf, bd ++ #[.func (.yield (w.heap.size + 1)) #[] #[]], W1, ?_, ?_, ?_, ?_, fun _ => h1, ?_⟩
  · rw [hW1, hrc]; exact run_enterLoop_outer _ _ _ _ _
  · simp only [resolve, hg]
    simp [go_sem]
  · intro f' _; trivial
  · simp [invoke, eg]
  · refine (hit (w.heap.size + 1) (fun A A' => A' = ((A.putObj (w.heap.size + 1) (.loop (rc .busy none))).setCell ⟨B, 0, none⟩ v).putObj (w.heap.size + 1) (.loop (rc .done (some .ret)))) W1 hb1 ?_).mono ?_
    · intro q x
      have hl : (W1.drewN q).heap[w.heap.size + 1]? = some (.loop (rc .ready none)) := hl1
      have hy := run_yield (P := P) (args := encs x) hl (by rw [hrc]; exact hps x)
      have hbg := run_beginRound (P := P) hl (by rw [hrc])
      have hlB : ((W1.drewN q).putObj (w.heap.size + 1) (.loop (rc .busy none))).heap[w.heap.size + 1]? = some (.loop (rc .busy none)) := World.putObj_heap_same hlt1
      have hbel : Below w.heap.size w ((W1.drewN q).putObj (w.heap.size + 1) (.loop (rc .busy none))) :=
        ⟨hb1.os, hb1.tape, hb1.output, by rw [World.putObj]; simpa using hb1.size, fun k hk => (World.putObj_heap_other (by omega)).trans (hb1.block k hk)⟩
      have hw := hbody (w.heap.size + 1) x _ hbel
      rw [hrc] at hy hbg
      refine ⟨fn, _, assign, body, hy, roundIn_of_wpIn hfn (hassign _ x _ _ ⟨_, hbg, ?_⟩)⟩
      rw [hrc] at hw
      refine wpIn_mono hw ?_
      intro e a3 W3 hp
      cases e with
      | normal =>
        obtain ⟨hgo, rfl⟩ := hp
        rw [hrc] at hlB
        have hr := run_endRound (P := P) none hlB
        refine ⟨_, _, hr, by rw [hgo]; rfl, .inl ⟨hgo, ?_⟩⟩
        rw [put_put]
        exact put_same _ _ _ (by rw [hrc] at hl; exact hl)
      | ret =>
        obtain ⟨hgo, rfl⟩ := hp
        rw [hrc] at hlB
        have hr := run_endRound (P := P) (some .ret) ((Below.heap_setCell _ ⟨B, 0, none⟩ v _ (by show w.heap.size + 1 ≠ B; omega)).trans hlB)
        exact ⟨_, _, hr, by rw [hgo]; rfl, .inr ⟨hgo, by rw [hrc]; rfl⟩⟩
      | exit id => exact hp.elim
      | goto t => exact hp.elim
      | panic ch => exact hp.elim
      | outgrown => exact hp.elim
    · rintro e W2 ⟨⟨r, rfl⟩, (⟨hS, q, rfl⟩ | ⟨hSx, q, rfl⟩)⟩
      · have hl : (W1.drewN q).heap[w.heap.size + 1]? = some (.loop (rc .ready none)) := hl1
        refine ⟨none, _, by have := run_endLoop (P := P) hl (by rw [hrc]; simp); rw [hrc] at this; exact this, ?_⟩
        refine hdone w.heap.size _ (Nat.le_refl _) hS ?_ ((World.putObj_heap_other (by omega)).trans hd1)
        exact ⟨hb1.os, hb1.tape, hb1.output, by simpa using hb1.size, fun k hk => (World.putObj_heap_other (by omega)).trans (hb1.block k hk)⟩
      · have hs3 : w.heap.size + 1 < (((W1.drewN q).putObj (w.heap.size + 1) (.loop (rc .busy none))).setCell ⟨B, 0, none⟩ v).heap.size := by simpa using hlt1
        have hpe : (rc .done (some .ret)).pending = some .ret := by rw [hrc]
        have hel := run_endLoop (P := P) (World.putObj_heap_same hs3 (o := .loop (rc .done (some .ret)))) (by rw [hrc]; simp)
        rw [hpe] at hel
        refine ⟨some .ret, _, hel, ?_⟩
        refine hstop w.heap.size _ (Nat.le_refl _) hSx ?_ ?_
        · refine ⟨hb1.os, hb1.tape, hb1.output, by simpa using hb1.size, fun k hk => ?_⟩
          refine (World.putObj_heap_other (by omega)).trans ((World.putObj_heap_other (by omega)).trans ?_)
          simp only [World.setCell, Array.getElem?_modify]
          rw [World.putObj_heap_other (by omega), show (W1.drewN q).heap[k]? = w.heap[k]? from hb1.block k hk]
        · refine (World.putObj_heap_other (by omega)).trans ((World.putObj_heap_other (by omega)).trans ((Below.heap_setCell _ _ _ _ (by show w.heap.size ≠ B; omega)).trans ((World.putObj_heap_other (by omega)).trans hd1)))

end Go.Proofs.Ytdpdbidjbidmaaa.Tx
