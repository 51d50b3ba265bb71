/-
  What toSeatS of the laws makes: a new list of handles, each with a new log. Conditions: at most 1048576 seats, and of each at most 1048576 words.
  What is written into a list that a call made, or nil. Nothing of the program is named here. No conditions.
  What markSeat and heldSeat of the laws do. Conditions: numbers from 0 to 2^62.
  markSeat and heldSeat of a seat whose list a call made, or is nil; how long a log may become. Conditions: at most 1048576 words.
  Lists of seats and inns that a call made, as they lie: what is said of them behind what changes other blocks, what they read as, and that they may be written. No conditions.
-/
import Derived.Laws.MakeOwn
import Derived.Test.YtakhjdodljhfmaaInn0
import Derived.Test.YtakhjdodljhfmaaSeat3
import Derived.Test.YtakhjdodljhfmaaOutE
import Derived.Test.YtakhjdodljhfmaaHears
import Derived.Test.YtakhjdodljhfmaaMem6
namespace Go.Proofs.Ytakhjdodljhfmaa.Tx
open Go.RowKit

/-- The handle of a seat whose log was copied into block g. -/
def handle (q : SeatL) (g : Nat) : SeatH := ⟨q.s, some ⟨g, 0, none⟩, q.l.length, q.l.length⟩
/-- A list of seats that the call made: the handles in block g, the logs in blocks above it, one above the other. -/
structure CopyS (w : World) (g : Nat) (gs : List Nat) (ss : List SeatL) : Prop where
  len : gs.length = ss.length
  at' : ∀ (j : Nat) (q : SeatL) (x : Nat), ss[j]? = some q → gs[j]? = some x → At w g (j * 15) (handle q x) ∧ g < x ∧ CopyE w x q.l.length q.l
  inc : gs.Pairwise (· < ·)
  lt : g < w.heap.size
  room : There w g 0 (ss.length * 15)
theorem makeSeatS (n : Nat) (hn : n ≤ 1048576) (w : World) : ∃ cs : Array Value, cs.size = n * 15 ∧ (Instr.makeSlice 39 (.int .i64 (n : Int)) (.int .i64 (n : Int))).run Try.prog w = .ok (.slice (some ⟨w.heap.size, 0, none⟩) n n) (w.alloc (.cells cs 66)) := by
  obtain ⟨i, hi⟩ := Option.isSome_iff_exists.1 (show (Try.prog.info? 66).isSome = true by kernel_rfl)
  have h1 : (Try.prog.info? 66).map (fun i => (i.zero, i.size)) = some (some (SeatV.val .zero none 0 0), 15) := by kernel_rfl
  have h2 : ((Try.prog.info? 66).map (fun i => decide (i.bytes ≤ 400))) = some true := by kernel_rfl
  rw [hi] at h1 h2
  simp only [Option.map_some, Option.some.injEq, Prod.mk.injEq, decide_eq_true_eq] at h1 h2
  have hb : (i.bytes : Int) * (n : Int) ≤ 400 * 1048576 := Int.mul_le_mul (by omega) (by omega) (by omega) (by omega)
  have := run_make (P := Try.prog) w 39 66 i _ Try.underlying39 hi h1.1 .i64 .i64 n n (by omega) (Int.le_refl _) (by omega) (by omega)
  rw [h1.2] at this
  refine ⟨_, ?_, by simpa using this⟩
  simp [size_madeCells]
end Go.Proofs.Ytakhjdodljhfmaa.Tx
namespace Go.Proofs.Ytakhjdodljhfmaa.Tx
open Go.RowKit

section
variable {α : Type} [Cells α] {w w' : World} {base n cap : Nat} {T : TypeId} {A : Option Addr} {l : List α}
theorem OutE.form (h : OutE w base T A n cap l) : (A = none ∧ n = 0) ∨ ∃ g, A = some ⟨g, 0, none⟩ ∧ g < w.heap.size ∧ There w g 0 (n * Cells.sz α) := by
  rcases h with ⟨rfl, rfl, _⟩ | ⟨g, rfl, rfl, m⟩
  · exact .inl ⟨rfl, rfl⟩
  · exact .inr ⟨g, rfl, m.base.2, made_there m⟩
/-- What is written into such a list. -/
def FillO (w : World) (A : Option Addr) (n m : Nat) (f : Nat → Value) : Prop := (A = none ∧ n = 0) ∨ ∃ g, A = some ⟨g, 0, none⟩ ∧ g < w.heap.size ∧ Filled w g f m
theorem FillO.heap {n m : Nat} {f : Nat → Value} (h : FillO w A n m f) (hs : w.heap.size ≤ w'.heap.size) (he : ∀ k, blkA A = some k → w'.heap[k]? = w.heap[k]?) : FillO w' A n m f := by
  rcases h with h | ⟨g, rfl, hg, hf⟩
  · exact .inl h
  · exact .inr ⟨g, rfl, by omega, fun t ht => (World.cell?_of_block (w := w) (a := ⟨g, t, none⟩) (he g rfl)).trans (hf t ht)⟩
theorem FillO.lt {n m : Nat} {f : Nat → Value} (h : FillO w A n m f) {k : Nat} (e : blkA A = some k) : k < w.heap.size := by
  rcases h with ⟨rfl, _⟩ | ⟨g, rfl, hg, _⟩
  · cases e
  · obtain rfl := Option.some.inj e
    exact hg
theorem FillO.on {n m : Nat} {f : Nat → Value} (h : FillO w A n m f) (b : Below w.heap.size w w') : FillO w' A n m f := h.heap b.size fun k e => b.block k (h.lt e)
end

end Go.Proofs.Ytakhjdodljhfmaa.Tx
namespace Go.Proofs.Ytakhjdodljhfmaa.Tx
open Go.RowKit

theorem markWordS_nil (A : Option Addr) (cap k : Nat) (w : World) : Calls Try.prog 51 #[.slice A 0 cap, .int .i64 (k : Int)] w fun e w' => e = .returned (.int .i64 (k : Int)) ∧ w = w' := by
  go_enter Try.func51, Try.ntmps51
  go_wp2_with fail
  go_loopw [1, 5] (fun kv i wr => i = .int .i64 0 ∧ kv = .int .i64 (k : Int) ∧ w = wr) (fun _ _ _ => 0)
  case atStart => exact ⟨rfl, rfl, rfl⟩
  case round =>
    obtain ⟨rfl, rfl, rfl⟩ := hrel
    go_wp2
    go_ret
    exact ⟨rfl, rfl⟩

theorem heldWordS_nil (A : Option Addr) (cap k : Nat) (w : World) : Calls Try.prog 52 #[.slice A 0 cap, .int .i64 (k : Int)] w fun e w' => e = .returned (.int .i64 (k : Int)) ∧ w = w' := by
  go_enter Try.func52, Try.ntmps52
  go_wp2_with fail
  go_loopw [1, 5] (fun kv i wr => i = .int .i64 0 ∧ kv = .int .i64 (k : Int) ∧ w = wr) (fun _ _ _ => 0)
  case atStart => exact ⟨rfl, rfl, rfl⟩
  case round =>
    obtain ⟨rfl, rfl, rfl⟩ := hrel
    go_wp2
    go_ret
    exact ⟨rfl, rfl⟩

end Go.Proofs.Ytakhjdodljhfmaa.Tx
namespace Go.Proofs.Ytakhjdodljhfmaa.Tx
open Go.RowKit

theorem LogOut.out {w : World} {base : Nat} {A : Option Addr} {n cap : Nat} {l : List WordV} (h : LogOut w base A n cap l) : OutE w base 94 A n cap l := h
theorem hearL_small (N : Nat) (s : SeatV) (l : List WordV) (b : BoxV) (hl : l.length ≤ N) (hN : 60 ≤ N) : (hearL s l b).length ≤ N := by
  have h1 : hearC s l.length b = 1 → l.length < 60 := fun h => by
    rw [hearC] at h
    repeat' split at h
    all_goals omega
  have h3 : hearC s l.length b = 3 → l.length < 60 := fun h => by
    rw [hearC] at h
    repeat' split at h
    all_goals first | omega | (rename_i h2; rw [Bool.and_eq_true, decide_eq_true_iff] at h2; exact h2.2)
  rw [hearL]
  split
  · split
    · rename_i h
      have := h1 h
      simp; omega
    · split
      · rename_i h
        have := h3 h
        simp; omega
      · exact hl
  · simp
theorem hearL_length (s : SeatV) (l : List WordV) (b : BoxV) (hl : l.length ≤ 1048576) : (hearL s l b).length ≤ 1048576 := hearL_small 1048576 s l b hl (by omega)
end Go.Proofs.Ytakhjdodljhfmaa.Tx
namespace Go.Proofs.Ytakhjdodljhfmaa.Tx
open Go.RowKit

/-- The blocks of a list of seats: the handles' one and the logs' ones. -/
def FootS (A : Option Addr) (hs : List SeatH) (k : Nat) : Prop := blkA A = some k ∨ ∃ (j : Nat) (x : SeatH), hs[j]? = some x ∧ blkA x.A = some k
/-- No two of these are one. -/
structure ApartS (A : Option Addr) (hs : List SeatH) : Prop where
  logs : ∀ (i j : Nat) (x y : SeatH), hs[i]? = some x → hs[j]? = some y → i ≠ j → ∀ k, blkA x.A = some k → blkA y.A ≠ some k
  front : ∀ (j : Nat) (y : SeatH), hs[j]? = some y → ∀ k, blkA y.A = some k → blkA A ≠ some k
/-- A log's block (or none), which may be written. -/
def HeldL (w : World) (base : Nat) (A : Option Addr) (n : Nat) : Prop := (A = none ∧ n = 0) ∨ ∃ g, A = some ⟨g, 0, none⟩ ∧ base ≤ g ∧ g < w.heap.size ∧ There w g 0 (n * 2)
/-- A list of seats that a call made (or nil), in blocks from base on: what it reads as, and that it may be written. -/
structure HeldS (w : World) (base : Nat) (A : Option Addr) (n : Nat) (hs : List SeatH) (ss : List SeatL) : Prop where
  len : hs.length = n
  len2 : ss.length = n
  front : (A = none ∧ n = 0) ∨ ∃ g, A = some ⟨g, 0, none⟩ ∧ base ≤ g ∧ g < w.heap.size ∧ There w g 0 (n * 15) ∧ ∀ (j : Nat) (x : SeatH), hs[j]? = some x → At w g (j * 15) x
  log : ∀ (j : Nat) (x : SeatH) (q : SeatL), hs[j]? = some x → ss[j]? = some q → x.s = q.s ∧ EltsO w w.heap.size x.A x.n q.l ∧ HeldL w base x.A x.n ∧ (x.A = none → x.c = 0)
  apart : ApartS A hs
section
variable {w w' : World} {base n m : Nat} {A : Option Addr} {hs : List SeatH} {ss : List SeatL}
theorem EltsO.same {α : Type} [Cells α] {l : List α} (h : EltsO w w.heap.size A n l) (he : ∀ k, blkA A = some k → w'.heap[k]? = w.heap[k]?) (hz : w.heap.size ≤ w'.heap.size) : EltsO w' w'.heap.size A n l := ⟨h.1, fun hn => by
  obtain ⟨b, off, e, hb, hc⟩ := h.2 hn
  subst e
  exact ⟨b, off, rfl, by omega, fun j a ha => (hc j a ha).heap (he b rfl)⟩⟩
theorem HeldL.heap (h : HeldL w base A n) (he : ∀ k, blkA A = some k → w'.heap[k]? = w.heap[k]?) (hz : w.heap.size ≤ w'.heap.size) : HeldL w' base A n := by
  rcases h with h | ⟨g, rfl, h1, h2, h3⟩
  · exact .inl h
  · exact .inr ⟨g, rfl, h1, by omega, h3.heap (he g rfl)⟩
theorem HeldL.lt (h : HeldL w base A n) {k : Nat} (e : blkA A = some k) : base ≤ k ∧ k < w.heap.size := by
  rcases h with ⟨rfl, _⟩ | ⟨g, rfl, h1, h2, _⟩
  · cases e
  · obtain rfl := Option.some.inj e; exact ⟨h1, h2⟩
theorem HeldL.mono {base' : Nat} (h : HeldL w base A n) (hb : base' ≤ base) : HeldL w base' A n := by
  rcases h with h | ⟨g, rfl, h1, h2, h3⟩
  · exact .inl h
  · exact .inr ⟨g, rfl, by omega, h2, h3⟩
theorem OutE.held {l : List WordV} {c : Nat} {T : TypeId} (h : OutE w base T A n c l) : HeldL w base A n ∧ EltsO w w.heap.size A n l ∧ (A = none → c = 0) := by
  refine ⟨?_, h.elts, ?_⟩
  · rcases h.form with h1 | ⟨g, rfl, h1, h2⟩
    · exact .inl h1
    · exact .inr ⟨g, rfl, (h.lt rfl).1, h1, h2⟩
  · rintro rfl
    rcases h with ⟨_, _, e, _⟩ | ⟨g, e, _⟩
    · exact e
    · cases e
theorem HeldS.foot (h : HeldS w base A n hs ss) {k : Nat} (e : FootS A hs k) : base ≤ k ∧ k < w.heap.size := by
  rcases e with e | ⟨j, x, hx, e⟩
  · rcases h.front with ⟨rfl, _⟩ | ⟨g, rfl, h1, h2, _⟩
    · cases e
    · obtain rfl := Option.some.inj e; exact ⟨h1, h2⟩
  · have hj : j < ss.length := by rw [h.len2, ← h.len]; exact (List.getElem?_eq_some_iff.1 hx).1
    exact (h.log j x _ hx (List.getElem?_eq_getElem hj)).2.2.1.lt e
theorem HeldS.heap (h : HeldS w base A n hs ss) (he : ∀ k, FootS A hs k → w'.heap[k]? = w.heap[k]?) (hz : w.heap.size ≤ w'.heap.size) : HeldS w' base A n hs ss := by
  refine ⟨h.len, h.len2, ?_, fun j x q hx hq => ?_, h.apart⟩
  · rcases h.front with h1 | ⟨g, rfl, h1, h2, h3, h4⟩
    · exact .inl h1
    · exact .inr ⟨g, rfl, h1, by omega, h3.heap (he g (.inl rfl)), fun j x hx => (h4 j x hx).heap (he g (.inl rfl))⟩
  · obtain ⟨h1, h2, h3, h4⟩ := h.log j x q hx hq
    exact ⟨h1, h2.same (fun k e => he k (.inr ⟨j, x, hx, e⟩)) hz, h3.heap (fun k e => he k (.inr ⟨j, x, hx, e⟩)) hz, h4⟩
theorem HeldS.on (h : HeldS w base A n hs ss) (b : Below w.heap.size w w') : HeldS w' base A n hs ss := h.heap (fun k e => b.block k (h.foot e).2) b.size
theorem HeldS.mono {base' : Nat} (h : HeldS w base A n hs ss) (hb : base' ≤ base) : HeldS w base' A n hs ss := by
  refine ⟨h.len, h.len2, ?_, fun j x q hx hq => ?_, h.apart⟩
  · rcases h.front with h1 | ⟨g, rfl, h1, h2, h3, h4⟩
    · exact .inl h1
    · exact .inr ⟨g, rfl, by omega, h2, h3, h4⟩
  · obtain ⟨h1, h2, h3, h4⟩ := h.log j x q hx hq
    exact ⟨h1, h2, h3.mono hb, h4⟩
/-- It reads as the list. -/
theorem HeldS.seats (h : HeldS w base A n hs ss) : SeatsO w w.heap.size A n ss := by
  refine ⟨hs, ⟨h.len, fun hn => ?_⟩, by rw [h.len, h.len2], fun j x q hx hq => ?_⟩
  · rcases h.front with ⟨_, e⟩ | ⟨g, rfl, h1, h2, h3, h4⟩
    · omega
    · exact ⟨g, 0, rfl, h2, fun j a ha => by rw [Nat.zero_add]; exact h4 j a ha⟩
  · obtain ⟨h1, h2, _, h4⟩ := h.log j x q hx hq
    exact ⟨h1, h2, h4⟩
theorem heldS_nil (w : World) (base : Nat) : HeldS w base none 0 [] [] :=
  ⟨rfl, rfl, .inl ⟨rfl, rfl⟩, fun j x q hx => by simp at hx, ⟨fun i j x y hx => by simp at hx, fun j y hy => by simp at hy⟩⟩
end
/-- What toSeatS made is one. -/
theorem CopyS.held {w : World} {g base : Nat} {gs : List Nat} {ss : List SeatL} (h : CopyS w g gs ss) (hb : base ≤ g) : HeldS w base (some ⟨g, 0, none⟩) ss.length (List.zipWith handle ss gs) ss := by
  have hz : ∀ (j : Nat) (x : SeatH), (List.zipWith handle ss gs)[j]? = some x → ∃ (q : SeatL) (y : Nat), ss[j]? = some q ∧ gs[j]? = some y ∧ handle q y = x := fun j x hx => List.getElem?_zipWith_eq_some.1 hx
  refine ⟨by rw [List.length_zipWith, h.len, Nat.min_self], rfl, .inr ⟨g, rfl, hb, h.lt, h.room, fun j x hx => ?_⟩, fun j x q hx hq => ?_, fun i j x y hx hy hne k ek ek2 => ?_, fun j y hy k ek ek2 => ?_⟩
  · obtain ⟨q, y, h1, h2, rfl⟩ := hz j x hx
    exact (h.at' j q y h1 h2).1
  · obtain ⟨q', y, h1, h2, rfl⟩ := hz j x hx
    obtain rfl : q = q' := Option.some.inj (hq.symm.trans h1)
    obtain ⟨_, h4, h5⟩ := h.at' j q y h1 h2
    exact ⟨rfl, h5.elts rfl, .inr ⟨y, rfl, by omega, h5.lies.1, h5.room⟩, fun e => by cases e⟩
  · obtain ⟨q, a, h1, h2, rfl⟩ := hz i x hx
    obtain ⟨q', b, h3, h4, rfl⟩ := hz j y hy
    obtain rfl : a = k := Option.some.inj ek
    obtain rfl : b = a := Option.some.inj ek2
    obtain ⟨i1, e1⟩ := List.getElem?_eq_some_iff.1 h2
    obtain ⟨i2, e2⟩ := List.getElem?_eq_some_iff.1 h4
    have hp := List.pairwise_iff_getElem.1 h.inc
    rcases Nat.lt_or_gt_of_ne hne with hlt | hlt
    · have := hp i j i1 i2 hlt
      rw [e1, e2] at this
      exact absurd this (Nat.lt_irrefl _)
    · have := hp j i i2 i1 hlt
      rw [e1, e2] at this
      exact absurd this (Nat.lt_irrefl _)
  · obtain ⟨q, a, h1, h2, rfl⟩ := hz j y hy
    obtain rfl : a = k := Option.some.inj ek
    have := (h.at' j q a h1 h2).2.1
    have e2 : g = a := Option.some.inj ek2
    omega

/-- How an inn lies: its memory's list, its list of seats, and the handles in it. -/
structure InnH where
  MA : Option Addr
  mn : Nat
  mc : Nat
  A : Option Addr
  n : Nat
  c : Nat
  hs : List SeatH
def InnH.val (i : InnH) (s : Int) : Value := .agg #[.slice i.MA i.mn i.mc, .int .i64 s, .slice i.A i.n i.c]
def FootI (i : InnH) (k : Nat) : Prop := blkN i.MA = some k ∨ FootS i.A i.hs k
/-- An inn that a call made, in blocks from base on. -/
structure HeldI (w : World) (base : Nat) (i : InnH) (zs : List Int) (ss : List SeatL) : Prop where
  mem : OwnN w base zs i.MA i.mn i.mc
  seats : HeldS w base i.A i.n i.hs ss
  apart : ∀ k, blkN i.MA = some k → ¬ FootS i.A i.hs k
section
variable {w w' : World} {base : Nat} {i : InnH} {zs : List Int} {ss : List SeatL}
theorem HeldI.foot (h : HeldI w base i zs ss) {k : Nat} (e : FootI i k) : base ≤ k ∧ k < w.heap.size := by
  rcases e with e | e
  · exact h.mem.lt e
  · exact h.seats.foot e
theorem HeldI.heap (h : HeldI w base i zs ss) (he : ∀ k, FootI i k → w'.heap[k]? = w.heap[k]?) (hz : w.heap.size ≤ w'.heap.size) : HeldI w' base i zs ss :=
  ⟨h.mem.heap fun k e => he k (.inl e), h.seats.heap (fun k e => he k (.inr e)) hz, h.apart⟩
theorem HeldI.on (h : HeldI w base i zs ss) (b : Below w.heap.size w w') : HeldI w' base i zs ss := h.heap (fun k e => b.block k (h.foot e).2) b.size
theorem HeldI.mono {base' : Nat} (h : HeldI w base i zs ss) (hb : base' ≤ base) : HeldI w base' i zs ss := ⟨h.mem.mono hb, h.seats.mono hb, h.apart⟩
end
/-- What an inn in blocks below B reads as. -/
structure InnO (w : World) (B : Nat) (MA : Option Addr) (mn : Nat) (A : Option Addr) (n : Nat) (zs : List Int) (ss : List SeatL) : Prop where
  mem : Nums w B MA mn zs
  seats : SeatsO w B A n ss
theorem InnO.below {w w' : World} {B mn n : Nat} {MA A : Option Addr} {zs : List Int} {ss : List SeatL} (h : InnO w B MA mn A n zs ss) (k : Below B w w') : InnO w' B MA mn A n zs ss := ⟨h.mem.below k, h.seats.below k⟩
theorem InnO.mono {w : World} {B B' mn n : Nat} {MA A : Option Addr} {zs : List Int} {ss : List SeatL} (h : InnO w B MA mn A n zs ss) (hB : B ≤ B') : InnO w B' MA mn A n zs ss := ⟨h.mem.mono hB, h.seats.mono hB⟩
theorem HeldI.reads {w : World} {base : Nat} {i : InnH} {zs : List Int} {ss : List SeatL} (h : HeldI w base i zs ss) : InnO w w.heap.size i.MA i.mn i.A i.n zs ss := ⟨h.mem.nums, h.seats.seats⟩

/-- What a callee that writes into the blocks of S alone leaves. -/
structure GrownS (a b : World) (S : Nat → Prop) : Prop where
  os : b.os = a.os
  tape : b.tape = a.tape
  output : b.output = a.output
  size : a.heap.size ≤ b.heap.size
  block : ∀ i, i < a.heap.size → ¬ S i → b.heap[i]? = a.heap[i]?
section
variable {a b c : World} {S : Nat → Prop}
theorem GrownS.refl (a : World) (S : Nat → Prop) : GrownS a a S := ⟨rfl, rfl, rfl, Nat.le_refl _, fun _ _ _ => rfl⟩
theorem GrownS.trans (h : GrownS a b S) (k : GrownS b c S) : GrownS a c S :=
  ⟨k.os.trans h.os, k.tape.trans h.tape, k.output.trans h.output, Nat.le_trans h.size k.size, fun i hi hn => (k.block i (Nat.lt_of_lt_of_le hi h.size) hn).trans (h.block i hi hn)⟩
theorem GrownS.of {row : Option Nat} (h : a.grownBy b row) (hS : ∀ k, row = some k → S k) : GrownS a b S := ⟨h.os, h.tape, h.output, h.size, fun i hi hn => h.block i hi fun e => hn (hS i e.symm)⟩
theorem GrownS.low (h : Below a.heap.size a b) : GrownS a b S := ⟨h.os, h.tape, h.output, h.size, fun i hi _ => h.block i hi⟩
theorem GrownS.wide {S' : Nat → Prop} (h : GrownS a b S) (hS : ∀ k, S k → S' k) : GrownS a b S' := ⟨h.os, h.tape, h.output, h.size, fun i hi hn => h.block i hi fun e => hn (hS i e)⟩
theorem GrownS.below {B : Nat} (h : GrownS b c S) (k : Below B a b) (hB : B ≤ b.heap.size) (hS : ∀ j, S j → B ≤ j) : Below B a c :=
  ⟨h.os.trans k.os, h.tape.trans k.tape, h.output.trans k.output, Nat.le_trans k.size h.size, fun i hi => (h.block i (by omega) fun e => by have := hS i e; omega).trans (k.block i hi)⟩
end

end Go.Proofs.Ytakhjdodljhfmaa.Tx
