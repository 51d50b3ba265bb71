/-
  In a region that draws its order: a store into one cell of a block of the call's own, a load of one of its cells beside a call, an append onto a row of the call's own or onto nil. No conditions. Nothing of the program is named here.
  A list of seats that grows by append and is stored into. No conditions.
  What IsDraw of the program answers: it turns nothing. No conditions.
  Plain facts: how the program asks which seats are right. No conditions.
  What the functions of chapter 3 of the program answer. No conditions.
  What the functions of chapter 4 of the program answer. No conditions.
  What the small functions of chapter 5 of the program answer (a row with its key embedded: what is promoted). No conditions.
  What SeatOk of the program answers. No condition.
  What copied of the program makes of a seat: its log is the call's own. Condition: at most 1048576 words.
  What drawsOf of the program makes (a copy of the list in new memory), and what slices.SortFunc does with it by draw.compare: the same numbers, rising. Condition: the list has at most 1048576 numbers.
  What the method value (draws).neighbours of the program hands out: each number of the list with the one behind it, in order, till a round says no. Condition: the list has at most 1048576 numbers.
  A range over a method value (an iterator with its receiver bound to it) whose body changes nothing as long as it goes on, and stores one value into one cell where it returns. No condition but those of the theorem.
  What IsDraw, NextDraw and AllUnlike of the program answer. Condition: a list has at most 1048576 numbers.
  What the program's small functions on the map of places do: placesOf, has, isFull, forget, told. Conditions: the list has at most 1048576 numbers, each an int64; told: no two of the list are alike.
  What SeenIn and MemoryOk of the program answer. Conditions: the list has at most 1048576 numbers, each an int64.
  What MemoryOk of the program answers, and what its recallOf makes. Conditions: the list has at most 1048576 numbers, each an int64.
  What InnOk of the program answers. Conditions: at most 1048576 seats, and as many draws in the memory.
  What innWith and copied of the program make of an inn: one like it, in memory of the call's own. Conditions: at most 1048576 numbers in the memory, as many seats, and of each as many words.
  What NewMemory, MayHear and Noted of the program answer. Conditions: the list has at most 1048576 numbers, each an int64; so is the greeting's number.
  What NewWorld of the program answers. No conditions.
-/
import Derived.Maps.AppendAt
import Derived.Test.YtakhjdodljhfmaaRegionO
import Derived.Test.YtakhjdodljhfmaaOutE
import Derived.Test.YtakhjdodljhfmaaInn6
import Derived.Test.YtakhjdodljhfmaaSeat5
import Derived.WalkKit
import Derived.Lib.Hide
import Derived.Test.YtakhjdodljhfmaaDraws0
import Derived.Test.YtakhjdodljhfmaaIn
import Derived.Test.YtakhjdodljhfmaaProg
import Derived.Test.YtakhjdodljhfmaaSeat0
import Derived.Deep.RegionWith
import Derived.Deep.RegionHeld3
import Derived.BigQuiet
import Derived.Deep.QuietTactic
import Derived.Test.YtakhjdodljhfmaaKey
import Derived.Test.YtakhjdodljhfmaaBlk
import Derived.Test.YtakhjdodljhfmaaEqV
import Derived.Test.YtakhjdodljhfmaaBox
import Derived.Test.YtakhjdodljhfmaaRow
import Derived.Test.YtakhjdodljhfmaaSeat
import Derived.Test.YtakhjdodljhfmaaSeat4
import Derived.Test.YtakhjdodljhfmaaHears
import Derived.Deep.OwnRows
import Derived.ProofKit
import Derived.Lib.OwnBridge
import Derived.Test.YtakhjdodljhfmaaNums
import Derived.Test.YtakhjdodljhfmaaShelf
import Derived.RangeFuncNested
import Derived.RangeFuncBound
import Derived.RangeFuncCalls
import Derived.RangeFuncLeaves
import Derived.Shelf.Abstract
import Derived.Shelf.RegionOpen
import Derived.OwnWalkIn
import Derived.TacticsInMore
import Derived.LoopNIn
import Derived.LoopIn
import Derived.Deep.Draws
import Derived.Test.YtakhjdodljhfmaaDraw2
import Derived.Maps.OwnSet
import Derived.Maps.RangeWalk
import Derived.Test.YtakhjdodljhfmaaMem0
import Derived.Test.YtakhjdodljhfmaaTime
import Derived.Test.YtakhjdodljhfmaaMem6
import Derived.Test.YtakhjdodljhfmaaInn2
import Derived.Test.YtakhjdodljhfmaaInn4
import Derived.Test.YtakhjdodljhfmaaRegionR
import Derived.WalkLawsBesides
import Derived.Test.YtakhjdodljhfmaaWorld2
namespace Go.Proofs.Ytakhjdodljhfmaa.Tx
open Go Go.RowKit

section
variable {P : Program} {ops : Array Oper} {E : Env} {Q : Act → World → Prop}
/-- A store into one cell. -/
theorem wpO_put {kl : List Nat} {o : Oper} {l : List Oper} {G : List Nat} {F : World → Prop} {a : Act} {g i : Nat} {t : TypeId} {cs : Array Value} (F0 : World → Prop) (v : Value) (hw : Region.wanted o (yielded ops a.tmps) = true) (hg : E.mine g)
    (hr : ∀ w : World, w.heap[g]? = some (.cells cs t (0, 0)) → (execOp a.eval o).run P w = .ok .skip (w.setCell ⟨g, i, none⟩ v))
    (hF : ∀ w, F w → F0 w ∧ w.heap[g]? = some (.cells cs t (0, 0))) (hS : Stays E F0) (hA : Away g F0)
    (h : wpO P ops E Q kl l G (fun w => F0 w ∧ w.heap[g]? = some (.cells (cs.setIfInBounds i v) t (0, 0))) (a.put o.dst undef)) : wpO P ops E Q (3 :: kl) (o :: l) G F a := by
  rw [wpO, if_pos hw]
  refine ⟨Unit, fun _ => undef, fun _ w => F0 w ∧ w.heap[g]? = some (.cells (cs.setIfInBounds i v) t (0, 0)), ⟨()⟩, fun _ => stays_and hS (stays_blk hg _), fun w hb hf => ?_, fun h => absurd h (by decide), fun h => absurd h (by decide), fun _ => h⟩
  obtain ⟨h0, hblk⟩ := hF w hf
  have off : ∀ k, k ≠ g → (w.setCell ⟨g, i, none⟩ v).heap[k]? = w.heap[k]? := fun k hk => Below.heap_setCell w ⟨g, i, none⟩ v k hk
  refine ⟨(), w.setCell ⟨g, i, none⟩ v, .inr ⟨hr w hblk, rfl⟩, E.free hb rfl rfl rfl (by simp [World.setCell]) (fun k hk => off k (fun e => hk (e ▸ hg))), by simp [World.setCell], hA w _ (fun k _ hk => off k hk) h0, ?_⟩
  simp [World.setCell, Array.getElem?_modify, hblk]
/-- A load of one cell, beside calls. -/
theorem wpO_cell5 {kl : List Nat} {o : Oper} {l : List Oper} {G : List Nat} {F : World → Prop} {a : Act} {g i : Nat} {t : TypeId} {cs : Array Value} (v : Value) (hw : Region.wanted o (yielded ops a.tmps) = true) (hS : Stays E F)
    (hg : ∀ w, E.C w → F w → w.heap[g]? = some (.cells cs t (0, 0))) (hv : cs[i]? = some v)
    (hr : ∀ w : World, w.cell? ⟨g, i, none⟩ = some v → (execOp a.eval o).run P w = .ok (.value v) w) (h : wpO P ops E Q kl l G F (a.put o.dst v)) : wpO P ops E Q (5 :: kl) (o :: l) G F a :=
  wpO_read5 v hw hS (fun w hc hf => hr w (by simp [World.cell?, hg w hc hf, hv])) h
/-- What is as it was in all blocks but A's is told by F. -/
def AwayA (A : Option Addr) (F : World → Prop) : Prop := ∀ w w' : World, (∀ k, k < w.heap.size → blkA A ≠ some k → w'.heap[k]? = w.heap[k]?) → F w → F w'
/-- append onto a row of the call's own, or onto nil. -/
theorem wpO_appendA {kl : List Nat} {o : Oper} {l : List Oper} {G : List Nat} {F : World → Prop} {a : Act} (F0 : World → Prop) (s x : Operand) (t : TypeId) (hw : Region.wanted o (yielded ops a.tmps) = true)
    (ho : o.op = .call { callee := .builtin .append, args := #[s, x], argTypes := #[t, t] })
    (base : Nat) (e : TypeId) (i : TypeInfo) (z : Value) (size bytes : Nat) (ht : P.underlying t = some (.slice e)) (hi : P.info? e = some i) (hz : i.zero = some z)
    (hsize : i.size = size) (hby : i.bytes = bytes) (hzs : z.cells.size = size) (hsz : 0 < size)
    (n : Nat) (xs : List Value) (A : Option Addr) (cb : Nat) (hs : a.eval s = .slice A n cb) (hmine : ∀ k, blkA A = some k → E.mine k)
    (ad : Addr) (m c : Nat) (news : List Value) (hx : a.eval x = .slice (some ad) m c) (hl : news.length = m * size) (h1 : ∀ u ∈ news, u.oneCell' = true) (hm : 0 < m)
    (h63 : n + m ≤ maxLen) (hbytes : (n + m) * bytes ≤ 140737488355328) (hbase : base ≤ E.lim)
    (hF : ∀ w, E.C w → F w → F0 w ∧ w.ownsRow base e size (.slice A n cb) n xs ∧ ∀ j u, news[j]? = some u → w.cell? (ad.add j) = some u) (hS : Stays E F0) (hA : AwayA A F0)
    (h : ∀ gb' cb', base ≤ gb' → E.mine gb' → wpO P ops E Q kl l G (fun w => F0 w ∧ w.ownsRow base e size (.slice (some ⟨gb', 0, none⟩) (n + m) cb') (n + m) (xs ++ news)) (a.put o.dst (.slice (some ⟨gb', 0, none⟩) (n + m) cb'))) : wpO P ops E Q (3 :: kl) (o :: l) G F a := by
  rw [wpO, if_pos hw]
  have fresh : E.mine E.lim := E.own (Nat.le_refl _)
  refine ⟨{ y : Nat × Nat // base ≤ y.1 ∧ E.mine y.1 }, fun y => .slice (some ⟨y.1.1, 0, none⟩) (n + m) y.1.2, fun y w => F0 w ∧ w.ownsRow base e size (.slice (some ⟨y.1.1, 0, none⟩) (n + m) y.1.2) (n + m) (xs ++ news), ⟨⟨(E.lim, 0), hbase, fresh⟩⟩, fun y => stays_and hS ?_, fun w hb hf => ?_, fun h => absurd h (by decide), fun h => absurd h (by decide), fun y => h y.1.1 y.1.2 y.2.1 y.2.2⟩
  · intro w w' hc hr ht'
    refine ⟨hr.1, ?_⟩
    rcases hr.2 with ⟨e, _⟩ | ⟨g, cap, cur, hv, hg, hh, rest⟩
    · cases e
    · refine .inr ⟨g, cap, cur, hv, hg, E.blk hc ht' ?_ hh, rest⟩
      injection hv with hv _ _
      have eg : y.1.1 = g := congrArg Addr.block (Option.some.inj hv)
      rw [← eg]
      exact y.2.2
  · obtain ⟨h0, hown, hnews⟩ := hF w hb hf
    obtain ⟨v', w', hr, h2, h3, h4, h5⟩ := run_append_own_at (P := P) w base t o.type e i z size bytes ht hi hz hsize hby hzs hsz _ n xs hown ad m c news hl hnews h1 h63 hbytes (Nat.le_trans hbase (E.lo hb))
    have hob : ∀ k, (Value.slice A n cb).ownBlock = some k ↔ blkA A = some k := fun k => by cases A <;> exact Iff.rfl
    obtain ⟨gb', cb', rfl⟩ : ∃ gb' cb', v' = .slice (some ⟨gb', 0, none⟩) (n + m) cb' := by
      rcases h2.2 with ⟨e, _⟩ | ⟨g, cap, cur, e, _⟩
      · have := (h4.1 e).2; omega
      · exact ⟨g, cap, e⟩
    have hk : ∀ k, k < w.heap.size → blkA A ≠ some k → w'.heap[k]? = w.heap[k]? := fun k hk hne => h3.block k hk (by intro e; exact hne ((hob k).1 e.symm))
    have hle : base ≤ gb' := (h2.lt gb' rfl).1
    have hmi : E.mine gb' := by
      rcases h5 with h5 | h5
      · exact hmine gb' ((hob gb').1 h5.symm)
      · have eg : gb' = w.heap.size := Option.some.inj h5
        exact E.own (by rw [eg]; exact E.lo hb)
    refine ⟨⟨(gb', cb'), hle, hmi⟩, w', .inl ?_, E.free hb h3.os h3.tape h3.output h3.size (fun k hn => ?_), h3.size, hA w w' hk h0, h2⟩
    · obtain ⟨dst, op, type, pos, after, guard⟩ := o
      subst ho
      simp only [execOp, resolve, invoke, builtin, Sem.run_bind, Sem.run_pure, Result.andThen_ok, List.map_toArray, List.map_cons, List.map_nil, hs, hx, hr]
    · refine hk k ?_ (fun e => hn (hmine k e))
      rcases Nat.lt_or_ge k w.heap.size with h | h
      · exact h
      · exact absurd (E.own (Nat.le_trans (E.lo hb) h)) hn

end
end Go.Proofs.Ytakhjdodljhfmaa.Tx
namespace Go.Proofs.Ytakhjdodljhfmaa.Tx
open Go.RowKit

/-- A list of seats as an append left it (or nil), each log made by the call. -/
structure RowS (w : World) (base : Nat) (A : Option Addr) (n c : Nat) (hs : List SeatH) (ss : List SeatL) : Prop where
  own : w.ownsRow base 66 15 (.slice A n c) n (hs.flatMap Cells.cells)
  len : hs.length = n
  len2 : ss.length = n
  log : ∀ (j : Nat) (x : SeatH) (q : SeatL), hs[j]? = some x → ss[j]? = some q → x.s = q.s ∧ OutE w base 94 x.A x.n x.c q.l
  logs : ∀ (i j : Nat) (x y : SeatH), hs[i]? = some x → hs[j]? = some y → i ≠ j → ∀ k, blkA x.A = some k → blkA y.A ≠ some k
section
variable {w w' : World} {base n c : Nat} {A : Option Addr} {hs : List SeatH} {ss : List SeatL}
theorem rowS_nil (w : World) (base : Nat) : RowS w base none 0 0 [] [] :=
  ⟨World.ownsRow_nil w base _ _, rfl, rfl, fun j x q hx => by simp at hx, fun i j x y hx => by simp at hx⟩
set_option maxHeartbeats 1000000 in
theorem own_out {α : Type} [Cells α] {T : TypeId} {l : List α} (h : w.ownsRow base T (Cells.sz α) (.slice A n c) n (l.flatMap Cells.cells)) (hn : l.length = n) : OutE w base T A n c l := by
  rcases h.2 with ⟨e, h0⟩ | ⟨g, cap, cur, e, _⟩
  · injection e with e1 e2 e3
    subst e1 e3 h0
    exact .inl ⟨rfl, rfl, rfl, List.eq_nil_of_length_eq_zero hn⟩
  · injection e with e1 e2 e3
    subst e1
    subst hn
    exact .inr ⟨g, rfl, rfl, ⟨h⟩⟩
/-- Its block holds such elements. -/
theorem OutE.kind {α : Type} [Cells α] {T : TypeId} {l : List α} (h : OutE w base T A n c l) {k : Nat} (e : blkA A = some k) : ∃ cs : Array Value, w.heap[k]? = some (.cells cs T (0, 0)) := by
  rcases h with ⟨rfl, _⟩ | ⟨g, rfl, _, m⟩
  · cases e
  · have eg : g = k := Option.some.inj e
    subst eg
    rcases m.own.2 with ⟨e, _⟩ | ⟨g', cap, cur, hv, _, hh, _⟩
    · cases e
    · injection hv with hv _ _
      have eg : g = g' := congrArg Addr.block (Option.some.inj hv)
      subst eg
      exact ⟨cur, hh⟩
theorem kind_one {k : Nat} {cs cs' : Array Value} {T T' : TypeId} (h : w.heap[k]? = some (.cells cs T (0, 0))) (h' : w.heap[k]? = some (.cells cs' T' (0, 0))) : T = T' := by
  have e := Option.some.inj (h.symm.trans h')
  injection e
theorem RowS.out (h : RowS w base A n c hs ss) : OutE w base 66 A n c hs := own_out h.own h.len
theorem RowS.at (h : RowS w base A n c hs ss) {j : Nat} {x : SeatH} (hx : hs[j]? = some x) : ∃ q, ss[j]? = some q ∧ OutE w base 94 x.A x.n x.c q.l := by
  have hj : j < ss.length := by rw [h.len2, ← h.len]; exact (List.getElem?_eq_some_iff.1 hx).1
  exact ⟨_, List.getElem?_eq_getElem hj, (h.log j x _ hx (List.getElem?_eq_getElem hj)).2⟩
theorem RowS.apart (h : RowS w base A n c hs ss) : ApartS A hs := ⟨h.logs, fun j y hy k e e2 => by
  obtain ⟨q, _, o⟩ := h.at hy
  obtain ⟨_, h1⟩ := o.kind e
  obtain ⟨_, h2⟩ := h.out.kind e2
  exact absurd (kind_one h1 h2) (by decide)⟩
theorem RowS.held (h : RowS w base A n c hs ss) : HeldS w base A n hs ss := by
  refine ⟨h.len, h.len2, ?_, fun j x q hx hq => ?_, h.apart⟩
  · rcases h.out with ⟨e, e2, _⟩ | ⟨g, rfl, e, m⟩
    · exact .inl ⟨e, e2⟩
    · refine .inr ⟨g, rfl, m.base.1, m.base.2, ?_, fun j x hx => ?_⟩
      · have := made_there m
        rw [h.len] at this
        exact this
      · have := (MadeG.lies m).2 j x hx
        rw [Nat.zero_add] at this
        exact this
  · obtain ⟨h1, h2⟩ := h.log j x q hx hq
    obtain ⟨h3, h4, h5⟩ := h2.held
    exact ⟨h1, h4, h3, h5⟩
theorem RowS.foot (h : RowS w base A n c hs ss) {k : Nat} (e : FootS A hs k) : base ≤ k ∧ k < w.heap.size := h.held.foot e
theorem own_heap {T : TypeId} {sz : Nat} {vs : List Value} (h : w.ownsRow base T sz (.slice A n c) n vs) (he : ∀ k, blkA A = some k → w'.heap[k]? = w.heap[k]?) : w'.ownsRow base T sz (.slice A n c) n vs := by
  refine ⟨h.1, ?_⟩
  rcases h.2 with h1 | ⟨g, cap, cur, hv, hg, hh, r⟩
  · exact .inl h1
  · refine .inr ⟨g, cap, cur, hv, hg, (he g ?_).trans hh, r⟩
    injection hv with hv _ _
    rw [hv]
    rfl
theorem RowS.heap (h : RowS w base A n c hs ss) (he : ∀ k, FootS A hs k → w'.heap[k]? = w.heap[k]?) : RowS w' base A n c hs ss :=
  ⟨own_heap h.own fun k e => he k (.inl e), h.len, h.len2, fun j x q hx hq => ⟨(h.log j x q hx hq).1, (h.log j x q hx hq).2.heap fun k e => he k (.inr ⟨j, x, hx, e⟩)⟩, h.logs⟩
theorem RowS.on (h : RowS w base A n c hs ss) (b : Below w.heap.size w w') : RowS w' base A n c hs ss := h.heap fun k e => b.block k (h.foot e).2
theorem getElem?_snoc {α : Type} {l : List α} {a b : α} {j : Nat} (h : (l ++ [a])[j]? = some b) : (j < l.length ∧ l[j]? = some b) ∨ (j = l.length ∧ a = b) := by
  by_cases hj : j < l.length
  · rw [List.getElem?_append_left hj] at h
    exact .inl ⟨hj, h⟩
  · rw [List.getElem?_append_right (by omega)] at h
    have hj2 : j = l.length := by
      have := (List.getElem?_eq_some_iff.1 h).1
      simp at this
      omega
    subst hj2
    rw [Nat.sub_self] at h
    exact .inr ⟨rfl, Option.some.inj h⟩
/-- One seat more: its log made since then, all other blocks as they were but the handles' one and one that is none of these. -/
theorem RowS.next {A' : Option Addr} {c' : Nat} (h : RowS w base A n c hs ss) (x : SeatH) (q : SeatL) (e1 : x.s = q.s) (o : OutE w' w.heap.size 94 x.A x.n x.c q.l) (hb : base ≤ w.heap.size)
    (he : ∀ (j : Nat) (y : SeatH), hs[j]? = some y → ∀ t, blkA y.A = some t → w'.heap[t]? = w.heap[t]?) (hown : w'.ownsRow base 66 15 (.slice A' (n + 1) c') (n + 1) ((hs ++ [x]).flatMap Cells.cells)) : RowS w' base A' (n + 1) c' (hs ++ [x]) (ss ++ [q]) := by
  refine ⟨hown, by rw [List.length_append, h.len]; rfl, by rw [List.length_append, h.len2]; rfl, fun j y p hy hp => ?_, fun i j y z hy hz hne t ht ht2 => ?_⟩
  · rcases getElem?_snoc hy with ⟨hj, hy⟩ | ⟨hj, rfl⟩
    · rcases getElem?_snoc hp with ⟨_, hp⟩ | ⟨hj2, _⟩
      · obtain ⟨l1, l2⟩ := h.log j y p hy hp
        exact ⟨l1, l2.heap (he j y hy)⟩
      · rw [h.len2, ← h.len] at hj2; omega
    · rcases getElem?_snoc hp with ⟨hj2, _⟩ | ⟨_, rfl⟩
      · rw [h.len2, ← h.len] at hj2; omega
      · exact ⟨e1, o.mono hb⟩
  · rcases getElem?_snoc hy with ⟨hi, hy⟩ | ⟨hi, rfl⟩
    · rcases getElem?_snoc hz with ⟨hj, hz⟩ | ⟨hj, rfl⟩
      · exact h.logs i j y z hy hz hne t ht ht2
      · have := (h.foot (.inr ⟨i, y, hy, ht⟩)).2
        have := (o.lt ht2).1
        omega
    · rcases getElem?_snoc hz with ⟨hj, hz⟩ | ⟨hj, rfl⟩
      · have := (h.foot (.inr ⟨j, z, hz, ht2⟩)).2
        have := (o.lt ht).1
        omega
      · omega
end
section
variable {w : World} {base g n : Nat} {hs : List SeatH} {ss : List SeatL}
theorem At.past {α : Type} [Cells α] {o k : Nat} {a : α} {vs : List Value} (h : At w g o a) (hk : k + vs.length ≤ o) : At (Tx.setAll w g k vs) g o a := fun i v hv => by
  rw [setAll_past vs k (by show k + vs.length ≤ o + i; omega)]
  exact h i v hv
theorem getElem?_put {α : Type} {l : List α} {a b : α} {i j : Nat} (h : (l.set i a)[j]? = some b) : (i = j ∧ a = b) ∨ (i ≠ j ∧ l[j]? = some b) := by
  rw [List.getElem?_set] at h
  by_cases e : i = j
  · rw [if_pos e] at h
    by_cases hj : i < l.length
    · rw [if_pos hj] at h
      exact .inl ⟨e, Option.some.inj h⟩
    · rw [if_neg hj] at h
      cases h
  · rw [if_neg e] at h
    exact .inr ⟨e, h⟩
/-- One seat is stored. -/
theorem HeldS.put (h : HeldS w base (some ⟨g, 0, none⟩) n hs ss) {j : Nat} (hj : j < n) (x : SeatH) (q : SeatL) (e1 : x.s = q.s) (e2 : EltsO w w.heap.size x.A x.n q.l) (e3 : HeldL w base x.A x.n) (e4 : x.A = none → x.c = 0) (hf : ∀ t, blkA x.A = some t → ¬ FootS (some ⟨g, 0, none⟩) hs t) :
    HeldS (setAll w g (j * 15) (Cells.cells x)) base (some ⟨g, 0, none⟩) n (hs.set j x) (ss.set j q) := by
  have hz : (setAll w g (j * 15) (Cells.cells x)).heap.size = w.heap.size := setAll_size _ _ _
  have off : ∀ t, t ≠ g → (setAll w g (j * 15) (Cells.cells x)).heap[t]? = w.heap[t]? := fun t ht => setAll_off ht _ _
  have hg : ∀ t, (∀ u, t = u → blkA (some (⟨g, 0, none⟩ : Addr)) ≠ some u) → t ≠ g := fun t ht e => ht t rfl (by rw [e]; rfl)
  refine ⟨by rw [List.length_set]; exact h.len, by rw [List.length_set]; exact h.len2, .inr ?_, fun i y p hy hp => ?_, ⟨fun i k y z hy hz' hne t ht ht2 => ?_, fun i y hy t ht ht2 => ?_⟩⟩
  · rcases h.front with ⟨e, _⟩ | ⟨g', e, h1, h2, h3, h4⟩
    · cases e
    · have eg : g = g' := congrArg Addr.block (Option.some.inj e)
      subst eg
      refine ⟨g, rfl, h1, by rw [hz]; exact h2, There.setAll _ _ h3, fun i y hy => ?_⟩
      rcases getElem?_put hy with ⟨rfl, rfl⟩ | ⟨hne, hy⟩
      · exact At.new (c := n * 15) x h3 (by show j * 15 + 15 ≤ _; omega)
      · by_cases hlt : i < j
        · exact (h4 i y hy).far (by show i * 15 + 15 ≤ _; omega)
        · exact (h4 i y hy).past (by show j * 15 + 15 ≤ _; omega)
  · rcases getElem?_put hy with ⟨rfl, rfl⟩ | ⟨hne, hy⟩
    · rcases getElem?_put hp with ⟨_, rfl⟩ | ⟨hne, _⟩
      · have o : ∀ t, blkA x.A = some t → (setAll w g (j * 15) (Cells.cells x)).heap[t]? = w.heap[t]? := fun t ht => off t fun e => hf t ht (.inl (by rw [e]; rfl))
        exact ⟨e1, e2.same o (Nat.le_of_eq hz.symm), e3.heap o (Nat.le_of_eq hz.symm), e4⟩
      · exact absurd rfl hne
    · rcases getElem?_put hp with ⟨e, _⟩ | ⟨_, hp⟩
      · exact absurd e hne
      · obtain ⟨l1, l2, l3, l4⟩ := h.log i y p hy hp
        have o : ∀ t, blkA y.A = some t → (setAll w g (j * 15) (Cells.cells x)).heap[t]? = w.heap[t]? := fun t ht => off t fun e => h.apart.front i y hy t ht (by rw [e]; rfl)
        exact ⟨l1, l2.same o (Nat.le_of_eq hz.symm), l3.heap o (Nat.le_of_eq hz.symm), l4⟩
  · rcases getElem?_put hy with ⟨rfl, rfl⟩ | ⟨_, hy⟩
    · rcases getElem?_put hz' with ⟨rfl, _⟩ | ⟨_, hz'⟩
      · exact hne rfl
      · exact hf t ht (.inr ⟨k, z, hz', ht2⟩)
    · rcases getElem?_put hz' with ⟨rfl, rfl⟩ | ⟨_, hz'⟩
      · exact hf t ht2 (.inr ⟨i, y, hy, ht⟩)
      · exact h.apart.logs i k y z hy hz' hne t ht ht2
  · rcases getElem?_put hy with ⟨rfl, rfl⟩ | ⟨_, hy⟩
    · exact hf t ht (.inl ht2)
    · exact h.apart.front i y hy t ht ht2
theorem foot_put {A : Option Addr} {j k : Nat} {x : SeatH} (h : FootS A (hs.set j x) k) : FootS A hs k ∨ blkA x.A = some k := by
  rcases h with h | ⟨i, y, hy, h⟩
  · exact .inl (.inl h)
  · rcases getElem?_put hy with ⟨_, rfl⟩ | ⟨_, hy⟩
    · exact .inr h
    · exact .inl (.inr ⟨i, y, hy, h⟩)
/-- One seat of an inn is stored, with a log that was made since. -/
theorem HeldI.put {M : Option Addr} {nm cm c B : Nat} {zs : List Int} {T : TypeId} (h : HeldI w base ⟨M, nm, cm, some ⟨g, 0, none⟩, n, c, hs⟩ zs ss) {j : Nat} (hj : j < n) (x : SeatH) (q : SeatL) (e1 : x.s = q.s) (o : OutE w B T x.A x.n x.c q.l)
    (hB : ∀ t, FootI ⟨M, nm, cm, some ⟨g, 0, none⟩, n, c, hs⟩ t → t < B) (hb : base ≤ B) : HeldI (setAll w g (j * 15) (Cells.cells x)) base ⟨M, nm, cm, some ⟨g, 0, none⟩, n, c, hs.set j x⟩ zs (ss.set j q) := by
  obtain ⟨o1, o2, o3⟩ := o.held
  have hx : ∀ t, blkA x.A = some t → ¬ FootI ⟨M, nm, cm, some ⟨g, 0, none⟩, n, c, hs⟩ t := fun t ht hf => by
    have h1 := hB t hf
    have h2 := (o.lt ht).1
    omega
  refine ⟨h.mem.heap fun t e => setAll_off (fun e2 => h.apart t e (.inl (by rw [e2]; rfl))) _ _, h.seats.put hj x q e1 o2 (o1.mono hb) o3 fun t ht hf => hx t ht (.inr hf), fun t ht hf => ?_⟩
  rcases foot_put hf with hf | hf
  · exact h.apart t ht hf
  · exact hx t hf (.inl ht)
end

end Go.Proofs.Ytakhjdodljhfmaa.Tx
namespace Go.Proofs.Ytakhjdodljhfmaa.Tx
open Go.RowKit

theorem isRight_any (n : Int) (w : World) : Calls Try.prog 63 #[.int .i64 n] w fun e w' => e = .returned (.bool (isDrawB n)) ∧ w = w' := by
  by_cases h1 : 1 ≤ n <;> by_cases h2 : n ≤ 100000
  all_goals
    go_enter Try.func63, Try.ntmps63
    go_wp2
    go_ret
    exact ⟨by simp [isDrawB, h1, h2], rfl⟩

theorem IsDraw_same (n : Int) (w : World) : Calls Try.prog 58 #[.int .i64 n] w fun e w' => e = .returned (.bool (isDrawB n)) ∧ w = w' := by
  generalize hb : isDrawB n = b
  have hc := isRight_any n
  rw [hb] at hc
  go_enter Try.func58, Try.ntmps58
  go_wp2_with (go_at_call 63; refine (hc _).mono ?_; rintro e w' ⟨rfl, rfl⟩)
  go_ret
  exact ⟨rfl, rfl⟩

theorem IsDraw_impl (n : Int) (w : World) : Calls Try.prog 58 #[.int .i64 n] w fun e w' => e = .returned (.bool (isDrawB n)) ∧ Below w.heap.size w w' :=
  (IsDraw_same n w).mono fun _ _ ⟨he, hw⟩ => ⟨he, hw ▸ Below.refl _ _⟩

end Go.Proofs.Ytakhjdodljhfmaa.Tx
namespace Go.Proofs.Ytakhjdodljhfmaa.Tx

/-- As the program asks: its secret, its row behind the answer, its row ahead of it. -/
def pkB (s : SeatV) : Bool := if s.p == 1 then s.f.k.s == 0 else if s.p == 2 then s.f.k.s != 0 else if s.p == 3 then s.f.k.s != 0 else false
def fthB (s : SeatV) : Bool := rowOkB s.f && s.f.k.same (forthK s.f.k.s s.h s.d)
def erlB (s : SeatV) : Bool := if s.st == 1 && s.p == 3 then rowOkB s.e && s.e.k.same (earlyK s.f.k.s s.h) else s.e.isZ
theorem isZ_iff {r : RowV} (h : r.isZ = true) : r = .zero := by
  obtain ⟨⟨u, s, h1, a⟩, n⟩ := r
  simp only [RowV.isZ, Bool.and_eq_true, beq_iff_eq] at h
  obtain ⟨rfl, rfl, rfl, rfl, rfl⟩ := h
  rfl
theorem row_zero_ok : rowOkB .zero = true := by decide
theorem forth_nz {k : KeyV} {h d : Int} (hh : isDrawB h = true) (hd : isDrawB d = true) (hk : k.same (forthK k.s h d) = true) : k.same .zero = false := by
  have e := KeyV.same_iff.1 hk
  cases hb : keyOkB ⟨4, k.s, h, d⟩ with
  | true =>
    rw [forthK, rightK_yes hb] at e
    refine KeyV.same_not fun e0 => ?_
    have h1 := congrArg KeyV.u (e.symm.trans e0)
    simp [KeyV.zero] at h1
  | false =>
    rw [forthK, rightK_no hb] at e
    rw [e] at hb
    simp [keyOkB, KeyV.zero, inB, hh, hd] at hb
theorem pick_sec (p s : Int) : (inB p 1 3 && ((s == 0) == (p == 1))) = (if p == 1 then s == 0 else if p == 2 then s != 0 else if p == 3 then s != 0 else false) := by
  by_cases h1 : p = 1
  · subst h1; cases h : s == 0 <;> simp [inB]
  by_cases h2 : p = 2
  · subst h2; cases h : s == 0 <;> simp [inB, h, bne]
  by_cases h3 : p = 3
  · subst h3; cases h : s == 0 <;> simp [inB, h, bne]
  rw [inB_no (by omega), bne_int h1, bne_int h2, bne_int h3]; rfl
theorem seat_prog (s : SeatV) (n : Nat) : seatOkB s n = ((s.st == 1 || s.st == 2) && (isDrawB s.h && (isDrawB s.d && (pkB s && (fthB s && (erlB s && decide (n ≤ 60))))))) := by
  have hs := pick_sec s.p s.f.k.s
  have hz := fun hh hd hk => forth_nz (k := s.f.k) (h := s.h) (d := s.d) hh hd hk
  have he : s.e.isZ = true → rowOkB s.e = true := fun h => by rw [isZ_iff h]; exact row_zero_ok
  unfold seatOkB fthB erlB
  rw [show pkB s = _ from hs.symm]
  generalize (s.st == 1 || s.st == 2) = a0
  generalize isDrawB s.h = a1 at *
  generalize isDrawB s.d = a2 at *
  generalize inB s.p 1 3 = a3
  generalize rowOkB s.e = a4 at *
  generalize rowOkB s.f = a5
  generalize decide (n ≤ 60) = a6
  generalize KeyV.same s.f.k .zero = a7 at *
  generalize KeyV.same s.f.k (forthK s.f.k.s s.h s.d) = a8 at *
  generalize ((s.f.k.s == 0) == (s.p == 1)) = a9
  generalize KeyV.same s.e.k (earlyK s.f.k.s s.h) = b0
  generalize RowV.isZ s.e = b1 at *
  generalize (s.st == 1 && s.p == 3) = b2
  clear hs
  cases a1 <;> cases a2 <;> simp
  cases a8 <;> simp
  have h7 : a7 = false := hz rfl rfl rfl
  subst h7
  cases b2
  · cases b1
    · simp
    · have h4 : a4 = true := he rfl
      subst h4
      cases a0 <;> cases a3 <;> cases a5 <;> cases a6 <;> cases a9 <;> rfl
  · cases a0 <;> cases a3 <;> cases a4 <;> cases a5 <;> cases a6 <;> cases a9 <;> cases b0 <;> rfl
/-- A new seat that is right was asked for with what goes together. -/
theorem new_goes {h d p s : Int} (e : seatOkB (newSeatRaw h d p s) 0 = true) : goesP p s = true := by
  rw [seat_prog] at e
  simp only [Bool.and_eq_true] at e
  obtain ⟨_, e1, e2, e3, e4, _⟩ := e
  replace e1 : isDrawB h = true := e1
  replace e2 : isDrawB d = true := e2
  have hf : (forthK s h d).same (forthK (forthK s h d).s h d) = true := by
    have h1 := e4
    simp only [fthB, Bool.and_eq_true] at h1
    exact h1.2
  have hnz := forth_nz e1 e2 hf
  cases hb : keyOkB ⟨4, s, h, d⟩ with
  | false => rw [forthK, rightK_no hb, KeyV.same_self] at hnz; cases hnz
  | true =>
    have hs : (forthK s h d).s = s := by rw [forthK, rightK_yes hb]
    have e5 : pkB (newSeatRaw h d p s) = (if p == 1 then s == 0 else if p == 2 then s != 0 else if p == 3 then s != 0 else false) := by
      show (if p == 1 then (forthK s h d).s == 0 else if p == 2 then (forthK s h d).s != 0 else if p == 3 then (forthK s h d).s != 0 else false) = _
      rw [hs]
    rw [e5] at e3
    have hr : inB s 0 100000 = true := by
      simp only [keyOkB, Bool.and_eq_true] at hb
      exact hb.2.1
    have hd' : s ≠ 0 → isDrawB s = true := fun hn => by
      have h1 := inB_true hr
      exact isDraw_iff.2 (by omega)
    rw [goesP]
    by_cases h1 : p = 1
    · rw [beq_int h1] at e3 ⊢; exact e3
    · rw [bne_int h1] at e3 ⊢
      by_cases h2 : p = 2
      · rw [beq_int h2] at e3 ⊢
        simp only [Bool.false_eq_true, if_false, if_true, bne_iff_ne] at e3
        simp [hd' (by simpa using e3)]
      · rw [bne_int h2] at e3 ⊢
        by_cases h3 : p = 3
        · rw [beq_int h3] at e3 ⊢
          simp only [Bool.false_eq_true, if_false, if_true, bne_iff_ne] at e3
          simp [hd' (by simpa using e3)]
        · rw [bne_int h3] at e3
          simp at e3
theorem newB_raw (h d p s : Int) : newSeatB h d p s = seatOkB (newSeatRaw h d p s) 0 := by
  rw [newSeatB]
  cases e : seatOkB (newSeatRaw h d p s) 0 with
  | false => simp
  | true => rw [new_goes e]; rfl

end Go.Proofs.Ytakhjdodljhfmaa.Tx
namespace Go.Proofs.Ytakhjdodljhfmaa.Tx
open Go.RowKit

/-- What a number of a key is: none (0), a draw (1), wrong (2). -/
def partZ (n : Int) : Int := if n = 0 then 0 else if isDrawB n then 1 else 2

/-- What a use wants Hello and Answer to be, and whether it is one. -/
def wantH (u : Int) : Int := if inB u 1 5 then 1 else 0
def wantA (u : Int) : Int := if inB u 3 5 then 1 else 0

theorem partZ_bad {s : Int} (h : inB s 0 100000 = false) : partZ s = 2 := by
  simp only [inB, Bool.and_eq_false_iff, decide_eq_false_iff_not] at h
  have h0 : s ≠ 0 := by omega
  have h1 : isDrawB s = false := by simp only [isDrawB, Bool.and_eq_false_iff, decide_eq_false_iff_not]; omega
  simp [partZ, h0, h1]
theorem partZ_good {s : Int} (h : inB s 0 100000 = true) : ∃ p, partZ s = p ∧ (p != 2) = true := by
  simp only [inB, Bool.and_eq_true, decide_eq_true_iff] at h
  by_cases h0 : s = 0
  · exact ⟨0, by simp [partZ, h0], rfl⟩
  · have h1 : isDrawB s = true := by simp only [isDrawB, Bool.and_eq_true, decide_eq_true_iff]; omega
    exact ⟨1, by simp [partZ, h0, h1], rfl⟩
theorem partZ_one {n : Int} : (partZ n = 1) ↔ isDrawB n = true := by
  by_cases h0 : n = 0
  · subst h0; simp [partZ, isDrawB]
  · cases h : isDrawB n <;> simp [partZ, h0, h]
theorem partZ_none {n : Int} : (partZ n = 0) ↔ n = 0 := by
  by_cases h0 : n = 0
  · subst h0; simp [partZ]
  · cases h : isDrawB n <;> simp [partZ, h0, h]
theorem keyOk_parts {u s h a : Int} (hu : inB u 1 6 = true) (hs : inB s 0 100000 = true) : keyOkB ⟨u, s, h, a⟩ = (partZ h == wantH u && partZ a == wantA u) := by
  have h15 : inB u 1 5 = !(u == 6) := by
    rw [Bool.eq_iff_iff]
    simp only [inB, Bool.and_eq_true, decide_eq_true_iff, Bool.not_eq_true', beq_eq_false_iff_ne] at hu ⊢
    omega
  unfold keyOkB wantH wantA
  dsimp only
  rw [hu, hs, h15]
  cases h6 : u == 6 with
  | true =>
    have h35 : inB u 3 5 = false := by rw [eq_of_beq h6]; rfl
    rw [h35, Bool.eq_iff_iff]
    simp [partZ_none]
  | false =>
    cases h35 : inB u 3 5
    · rw [Bool.eq_iff_iff]
      simp [partZ_none, partZ_one]
    · rw [Bool.eq_iff_iff]
      simp [partZ_one]

end Go.Proofs.Ytakhjdodljhfmaa.Tx
namespace Go.Proofs.Ytakhjdodljhfmaa.Tx
open Go.RowKit

end Go.Proofs.Ytakhjdodljhfmaa.Tx
namespace Go.Proofs.Ytakhjdodljhfmaa.Tx
open Go.RowKit

end Go.Proofs.Ytakhjdodljhfmaa.Tx
namespace Go.Proofs.Ytakhjdodljhfmaa.Tx
open Go.RowKit

end Go.Proofs.Ytakhjdodljhfmaa.Tx
namespace Go.Proofs.Ytakhjdodljhfmaa.Tx
open Go.RowKit

set_option maxRecDepth 100000 in
set_option maxHeartbeats 16000000 in
theorem copiedList_any (A : Option Addr) (n cap : Nat) (l : List WordV) (w : World) (h : EltsO w w.heap.size A n l) (hzc : A = none → cap = 0) (hn : n ≤ 1048576) :
    Calls Try.prog 43 #[.slice A n cap] w fun e w' => ∃ g cb, e = .returned (.slice (some ⟨g, 0, none⟩) n cb) ∧ MadeE w' w.heap.size 94 l g cb ∧ Below w.heap.size w w' := by
  obtain ⟨i0, by0, hi, hz0, hz1, hz2, hby⟩ := infoWordE
  have E := Lib.hid h
  have hz := Lib.hid hzc
  clear h hzc
  obtain ⟨W0, hW0⟩ : ∃ W, w.alloc (.cells #[] 94) = W := ⟨_, rfl⟩
  have K0 : Hid (Below w.heap.size w W0) := by rw [← hW0]; exact (Below.refl _ w).alloc (Nat.le_refl _) _
  have N0 : Hid (W0.heap[w.heap.size]? = some (.cells #[] 94)) := by rw [← hW0]; exact heap1 w _
  have E1 := Lib.hid (E.out.below K0.out)
  have hlt : w.heap.size < W0.heap.size := blk_in N0.out
  go_enter Try.func43, Try.ntmps43
  rcases A with _ | ad
  · have hn0 : n = 0 := by
      rcases Nat.eq_zero_or_pos n with h | h
      · exact h
      · obtain ⟨_, _, e, _⟩ := E.out.2 h; cases e
    subst hn0
    obtain rfl : l = [] := List.length_eq_zero_iff.1 E.out.1
    obtain rfl : cap = 0 := hz.out rfl
    have M0 : Hid (MadeE W0 w.heap.size 94 ([] : List WordV) w.heap.size 0) := madeG_nil N0.out (Nat.le_refl _)
    have hap := run_append_owned_none W0 w.heap.size 91 91 94 i0 2 Try.underlying91 hi _ 0 [] M0.out.own
    go_wp2
    go_ret
    exact ⟨w.heap.size, 0, rfl, M0.out, K0.out⟩
  · go_wp2_with (at_builtin; refine wpList_append_own _ rfl _ _ 91 rfl w.heap.size 94 i0 WordV.zero.val 2 by0 Try.underlying91 hi hz0 hz1 hz2 rfl (by decide) _ 0 [] rfl (madeG_nil N0.out (Nat.le_refl _)).own ad n cap (l.flatMap Cells.cells) rfl (by rw [flat_len, E.out.1]; rfl) (E1.out.cells (by omega)) flat_one (by unfold maxLen; omega) (Nat.le_trans (Nat.mul_le_mul (by omega : 0 + n ≤ 1048576) hby) (by decide)) (by omega) ?_; intro v' w3 hown' hgrow hiff; have h9 := made_app (l := ([] : List WordV)) (l2 := l) (n := 0) (m := n) (gb := w.heap.size) (cb := 0) hown' rfl E.out.1.symm hiff; obtain ⟨gb', cb', rfl, hM'⟩ := h9; have HM' : Hid (MadeE w3 w.heap.size 94 l gb' cb') := hM'; have HGR := Lib.hid hgrow; clear hown' hgrow hM' hiff)
    have hln : l.length = n := E.out.1
    try rw [List.nil_append]
    try simp only [hln]
    go_ret
    exact ⟨gb', cb', rfl, HM'.out, below_off K0.out HGR.out ⟨Nat.le_refl _, by omega⟩⟩

theorem EltsO.oncopy {α : Type} [Cells α] {w w' : World} {B n : Nat} {A : Option Addr} {l : List α} (h : EltsO w B A n l) (k : Below B w w') (hs : B ≤ w'.heap.size) : EltsO w' w'.heap.size A n l := (h.below k).mono hs

set_option maxRecDepth 100000 in
set_option maxHeartbeats 16000000 in
theorem copied_any (s : SeatV) (A : Option Addr) (n cap : Nat) (l : List WordV) (w : World) (h : EltsO w w.heap.size A n l) (hzc : A = none → cap = 0) (hn : n ≤ 1048576) :
    Calls Try.prog 28 #[s.val A n cap] w fun e w' => ∃ g cb, e = .returned (s.val (some ⟨g, 0, none⟩) n cb) ∧ MadeE w' w.heap.size 94 l g cb ∧ Below w.heap.size w w' := by
  have E := Lib.hid h
  have cL := Lib.hid fun (w' : World) (h' : EltsO w' w'.heap.size A n l) => copiedList_any A n cap l w' h' hzc hn
  clear h hzc
  obtain ⟨st, sh, sd, sp, ⟨⟨eu, es, eh, ea⟩, en⟩, ⟨⟨fu, fs, fh, fa⟩, fn⟩⟩ := s
  have HV : Hid (SeatV.val ⟨st, sh, sd, sp, ⟨⟨eu, es, eh, ea⟩, en⟩, ⟨⟨fu, fs, fh, fa⟩, fn⟩⟩ A n cap = .agg #[.int .i64 st, .int .i64 sh, .int .i64 sd, .int .i64 sp, .int .i64 eu, .int .i64 es, .int .i64 eh, .int .i64 ea, .int .i64 en, .int .i64 fu, .int .i64 fs, .int .i64 fh, .int .i64 fa, .int .i64 fn, .slice A n cap]) := rfl
  rw [HV.out]
  clear HV
  obtain ⟨W0, hW0⟩ : ∃ W, (w.alloc (.cells #[.int .i64 st, .int .i64 sh, .int .i64 sd, .int .i64 sp, .int .i64 eu, .int .i64 es, .int .i64 eh, .int .i64 ea, .int .i64 en, .int .i64 fu, .int .i64 fs, .int .i64 fh, .int .i64 fa, .int .i64 fn, .slice A n cap] 66)).alloc (.cells #[.int .i64 0, .int .i64 0, .int .i64 0, .int .i64 0, .int .i64 0, .int .i64 0, .int .i64 0, .int .i64 0, .int .i64 0, .int .i64 0, .int .i64 0, .int .i64 0, .int .i64 0, .int .i64 0, .slice none 0 0] 66) = W := ⟨_, rfl⟩
  have K0 : Hid (Below w.heap.size w W0) := by rw [← hW0]; exact ((Below.refl _ w).alloc (Nat.le_refl _) _).alloc (by simp; try omega) _
  have Y0 : Hid (W0.heap[w.heap.size]? = some (.cells #[.int .i64 st, .int .i64 sh, .int .i64 sd, .int .i64 sp, .int .i64 eu, .int .i64 es, .int .i64 eh, .int .i64 ea, .int .i64 en, .int .i64 fu, .int .i64 fs, .int .i64 fh, .int .i64 fa, .int .i64 fn, .slice A n cap] 66)) := by rw [← hW0]; exact heap2a w _ _
  have R0 : Hid (W0.heap[w.heap.size + 1]? = some (.cells #[.int .i64 0, .int .i64 0, .int .i64 0, .int .i64 0, .int .i64 0, .int .i64 0, .int .i64 0, .int .i64 0, .int .i64 0, .int .i64 0, .int .i64 0, .int .i64 0, .int .i64 0, .int .i64 0, .slice none 0 0] 66)) := by rw [← hW0]; exact heap2b w _ _
  have zW0 : W0.heap.size = w.heap.size + 2 := by rw [← hW0]; simp
  go_enter Try.func28, Try.ntmps28
  obtain ⟨⟨a0, a1, a2, a3, a4, a5, a6, a7, a8, a9, a10, a11, a12, a13, a14⟩, _⟩ := blk15 Y0.out
  go_wp2_with fail
  clear a0 a1 a2 a3 a4 a5 a6 a7 a8 a9 a10 a11 a12 a13 a14
  clear hW0
  refine (cL.out _ (E.out.oncopy K0.out K0.out.size)).mono ?_
  rintro e w1 ⟨g, cb, rfl, hM, hb⟩
  have M0 := Lib.hid (hM.mono K0.out.size)
  have hgb := hM.base
  have hsw := hb.size
  clear hM
  have Y1 := Lib.hid (blk_on hb Y0.out)
  have R1 := Lib.hid (blk_on hb R0.out)
  have K1 := Lib.hid (K0.out.trans (hb.mono K0.out.size))
  clear hb Y0 R0 K0
  obtain ⟨⟨b0, b1, b2, b3, b4, b5, b6, b7, b8, b9, b10, b11, b12, b13, b14⟩, bz0, bz1, bz2, bz3, bz4, bz5, bz6, bz7, bz8, bz9, bz10, bz11, bz12, bz13, bz14⟩ := blk15 Y1.out
  obtain ⟨S2, qS2⟩ : ∃ W, setAll w1 w.heap.size 14 [.slice (some ⟨g, 0, none⟩) n cb] = W := ⟨_, rfl⟩
  have hS2 : (w1.setCell ⟨w.heap.size, 14, none⟩ (.slice (some ⟨g, 0, none⟩) n cb)) = S2 := qS2
  have Y2 : Hid (S2.heap[w.heap.size]? = some (.cells #[.int .i64 st, .int .i64 sh, .int .i64 sd, .int .i64 sp, .int .i64 eu, .int .i64 es, .int .i64 eh, .int .i64 ea, .int .i64 en, .int .i64 fu, .int .i64 fs, .int .i64 fh, .int .i64 fa, .int .i64 fn, .slice (some ⟨g, 0, none⟩) n cb] 66)) := by
    rw [← qS2]
    refine (setAll_blk (w := w1) (g := w.heap.size) [.slice (some ⟨g, 0, none⟩) n cb] 14 Y1.out).trans ?_
    refine congrArg (fun z => some (Obj.cells z 66 (0, 0))) (Array.toList_inj.1 ?_)
    rw [overA_toList _ _ _ (by simp)]
    rfl
  have R2 : Hid (S2.heap[w.heap.size + 1]? = some (.cells #[.int .i64 0, .int .i64 0, .int .i64 0, .int .i64 0, .int .i64 0, .int .i64 0, .int .i64 0, .int .i64 0, .int .i64 0, .int .i64 0, .int .i64 0, .int .i64 0, .int .i64 0, .int .i64 0, .slice none 0 0] 66)) := by rw [← qS2]; exact setAll_away (by omega) _ _ R1.out
  have K2 : Hid (Below w.heap.size w S2) := by rw [← qS2]; exact setAll_below (g := w.heap.size) (by omega) [.slice (some ⟨g, 0, none⟩) n cb] 14 K1.out
  have zS2 : w1.heap.size = S2.heap.size := by rw [← qS2]; exact (setAll_size [.slice (some ⟨g, 0, none⟩) n cb] 14 _).symm
  clear qS2 Y1 R1 K1
  have MF : Hid (MadeE S2 w.heap.size 94 l g cb) := by
    rw [← hS2]
    exact M0.out.heap (setAll_off (g := w.heap.size) (by omega) [.slice (some ⟨g, 0, none⟩) n cb] 14)
  go_upto_region 2 with fail
  try rw [hS2]
  clear b0 b1 b2 b3 b4 b5 b6 b7 b8 b9 b10 b11 b12 b13 b14 bz0 bz1 bz2 bz3 bz4 bz5 bz6 bz7 bz8 bz9 bz10 bz11 bz12 bz13 bz14
  clear hS2
  go_wp2_with (first | (refine wpList_load_row rfl 66 _ rfl (w.heap.size) rfl 66 _ (0, 0) _ Y2.out Try.underlying66 rfl (by kernel_rfl) ?_) | (refine wpList_store_row rfl 66 _ _ rfl (w.heap.size + 1) #[.int .i64 st, .int .i64 sh, .int .i64 sd, .int .i64 sp, .int .i64 eu, .int .i64 es, .int .i64 eh, .int .i64 ea, .int .i64 en, .int .i64 fu, .int .i64 fs, .int .i64 fh, .int .i64 fa, .int .i64 fn, .slice (some ⟨g, 0, none⟩) n cb] rfl rfl 66 _ R2.out (by kernel_rfl) rfl (by simp [Value.oneCell']) ?_))
  exact row_ret (r := w.heap.size + 1) (cs := #[.int .i64 st, .int .i64 sh, .int .i64 sd, .int .i64 sp, .int .i64 eu, .int .i64 es, .int .i64 eh, .int .i64 ea, .int .i64 en, .int .i64 fu, .int .i64 fs, .int .i64 fh, .int .i64 fa, .int .i64 fn, .slice (some ⟨g, 0, none⟩) n cb]) rfl rfl (setRow_heap _ _ _ _ _ _ R2.out) Try.underlying66 rfl (by kernel_rfl) rfl ⟨g, cb, rfl, MF.out.heap (setRow_other _ _ _ _ (by omega)), below_setRow K2.out (by omega) _⟩

end Go.Proofs.Ytakhjdodljhfmaa.Tx
namespace Go.Proofs.Ytakhjdodljhfmaa.Tx
open Go.RowKit Go.Shelf
open Go.Lib (compareInt)
open Go.Sort (SWO Holds putRow PermIn SortedIn grow)

theorem infoDraw : (Try.prog.info? 115).map (fun i => (i.zero, i.size, i.bytes)) = some (some (.int .i64 0), 1, 8) := by kernel_rfl

set_option maxHeartbeats 1000000 in
theorem drawsOf_any (A : Option Addr) (n cap : Nat) (zs : List Int) (w : World) (h : Nums w w.heap.size A n zs) (hn : n ≤ 1048576) :
    Calls Try.prog 64 #[.slice A n cap] w fun e w' => e = .returned (.slice (some ⟨w.heap.size, 0, none⟩) n n) ∧ w'.rowIs w.heap.size 115 n (fun i => .int .i64 (zs[i]?.getD 0)) ∧ Below w.heap.size w w' := by
  obtain ⟨hlen, hcells⟩ := h
  have HC := Lib.hid hcells
  clear hcells hlen
  have hmk := run_make_row' (P := Try.prog) 118 115 (.int .i64 0) 8 Try.underlying118 infoDraw rfl .i64 .i64 n (by omega) (by omega)
  go_enter Try.func64, Try.ntmps64
  go_wp2
  clear hmk
  go_loopw [11] (fun i wr => ∃ k : Nat, k ≤ n ∧ i = .int .i64 k ∧ wr.rowIs w.heap.size 115 n (fun j => if j < k then .int .i64 (zs[j]?.getD 0) else .int .i64 0) ∧ Below w.heap.size w wr)
    (fun i _ => n - (intOf i).toNat)
  case atStart => exact ⟨0, Nat.zero_le _, rfl, (World.rowIs_made w _ n 115).congr (fun j _ => by simp), (Below.refl _ w).alloc (Nat.le_refl _) _⟩
  case round =>
    obtain ⟨k, hk, rfl, hrow, hB⟩ := hrel
    by_cases hlt : k < n
    · obtain ⟨b, off, rfl, hb, hc⟩ := HC.out (by omega)
      have hck := (hB.cell (p := ⟨b, off + k, none⟩) hb).trans (hc k hlt)
      have hst1 := hrow.cell hlt
      have hst2 := hrow.frozen k
      have HR := Lib.hid hrow
      clear hc hrow
      go_wp2
      go_roundw
      case rel =>
        refine ⟨k + 1, by omega, by go_num, (HR.out.set k _).congr (fun j hj => ?_), hB.setCell (p := ⟨w.heap.size, k, none⟩) (Nat.le_refl _) _⟩
        by_cases e : j = k
        · subst e; simp
        · by_cases hjk : j < k
          · simp only [e, hjk, if_true, if_false]; rw [if_pos (by omega)]
          · simp only [e, hjk, if_false]; rw [if_neg (by omega)]
      case measure => simp [intOf]; omega
    · obtain rfl : k = n := by omega
      have HR := Lib.hid hrow
      clear hrow
      go_wp2
      go_ret
      exact ⟨rfl, HR.out.congr (fun j hj => by rw [if_pos hj]), hB⟩

theorem compare_any (x y : Int) (W : World) : Calls Try.prog 66 #[.int .i64 x, .int .i64 y] W fun e w' => e = .returned (.int .i64 (compareInt x y)) ∧ ∃ q, w' = W.drewN q := by
  have hcon := AnyG.cmp_Compare_int cmpL x y W
  change Calls Try.prog 71 _ _ _ at hcon
  generalize compareInt x y = r at hcon ⊢
  go_enter Try.func66, Try.ntmps66
  go_wp2_with (go_at_call 71; refine hcon.mono ?_; rintro e w' ⟨rfl, rfl⟩)
  go_ret
  exact ⟨rfl, 0, rfl⟩

theorem lt_iff (x y : Int) : ltOf compareInt x y = decide (x < y) := by
  unfold ltOf compareInt
  by_cases h1 : x < y
  · simp [h1]
  · by_cases h2 : y < x <;> simp [h1, h2]
theorem swoC : SWO (ltOf compareInt) where
  irrefl x := by rw [lt_iff]; simp
  trans x y z h1 h2 := by rw [lt_iff] at *; simp at *; omega
  ntrans x y z h1 h2 := by rw [lt_iff] at *; simp at *; omega

theorem reads (blk off size : Nat) (w : World) : CmpReads Try.prog 66 #[] (Value.int .i64) compareInt blk off size w :=
  fun _ _ _ _ x y => compare_any x y _

set_option maxHeartbeats 1000000 in
theorem SortFunc_any (blk cap : Nat) (d : Array Int) (w : World) (hH : Holds (Value.int .i64) w blk 0 d) (hblk : blk < w.heap.size) (hsz : d.size ≤ 1048576) :
    Calls Try.prog 65 #[.slice (some ⟨blk, 0, none⟩) d.size cap, .func (.func 66) #[] #[]] w fun e w' =>
      e = .returned (.tuple #[]) ∧ ∃ d' n os, PermIn 0 d.size d d' ∧ SortedIn (ltOf compareInt) 0 d.size d' ∧ w' = sortWorld (Value.int .i64) w blk 0 n d' os := by
  have eg : ∀ args w, (callFunc 66 args).run Try.prog w = .ok (.enter 66 args) w := enters_of Try.func66 (by kernel_rfl) rfl
  have hlim : Lib.bitLen d.size < 4611686018427387904 := Nat.lt_of_le_of_lt (Lib.bitLen_le d.size 62 (by omega) (by omega)) (by omega)
  have hp := Any.pdqsortCmpFunc_all pdqL (Value.int .i64) compareInt 66 #[] swoC blk 0 cap d w eg (reads blk 0 d.size w).lays ⟨fun _ => rfl, hH, hblk⟩ (d.size + 1) 0 d.size (Lib.bitLen d.size) d w (by omega) rfl (SW.start hH) (Nat.zero_le _) (Nat.le_refl _) (by omega) hlim (Or.inl rfl)
  change Calls Try.prog 69 _ _ _ at hp
  have hl : Calls Try.prog 70 #[.int .u64 (d.size : Int)] w fun e w' => e = .returned (.int .i64 (Lib.bitLen d.size : Nat)) ∧ w' = w := by
    have h := Any.bits_Len (SlLaysF0.n15.bits lenL) (d.size : Int) w (by omega) (by omega)
    rw [Int.toNat_natCast] at h
    exact h
  have hs := Go.Sort.pdq_sorts (ltOf compareInt) swoC d 0 d.size (Lib.bitLen d.size) true true (Nat.zero_le _) (Nat.le_refl _) (Or.inl rfl)
  have HS := Lib.hid hs
  clear hs
  generalize Go.Sort.pdq (ltOf compareInt) d 0 d.size (Lib.bitLen d.size) true true = r at hp HS
  clear hH hlim
  generalize Lib.bitLen d.size = bl at hp hl
  have HSZ := hsz
  generalize d.size = m at hp hl HS hsz ⊢
  clear HSZ
  go_enter Try.func65, Try.ntmps65
  go_wp2_with (first | (go_at_call 70; refine hl.mono ?_; rintro e w' ⟨rfl, rfl⟩) | (go_at_call 69; refine hp.mono ?_; rintro e w' ⟨rfl, n, os, rfl⟩))
  go_end0
  exact ⟨rfl, r, n, os, HS.out.1, HS.out.2, rfl⟩

end Go.Proofs.Ytakhjdodljhfmaa.Tx
namespace Go.Proofs.Ytakhjdodljhfmaa.Tx
open Go.RowKit Go.Shelf

attribute [local go_sem] Oper.semAt_some

/-- No two that stand side by side among the first k are alike. -/
def apartTo (zs : List Int) (k : Nat) : Prop := ∀ j, j + 1 < k → zs[j]?.getD 0 ≠ zs[j + 1]?.getD 0

/-- What a round does: it goes on where x and y differ, and all is as it was; else it has come to St. -/
def Round2 (F : Fence) (n : Nat) (l : Nat) (St : World → World → Prop) (W : World) : Prop :=
  ∀ (q : Nat) (x y : Int), YieldAt F n Try.prog l #[.int .i64 x, .int .i64 y] (W.drewN q) fun e W' =>
    e = .returned (.bool (!decide (x = y))) ∧ ((x ≠ y ∧ W' = W.drewN q) ∨ (x = y ∧ St (W.drewN q) W'))

set_option maxRecDepth 100000 in
set_option maxHeartbeats 2000000 in
theorem neighbours_in (n : Nat) (hn : 1 ≤ n) (l : Nat) (A : Option Addr) (len cap : Nat) (zs : List Int) (hlen : len ≤ 1048576)
    (St : World → World → Prop) (W : World) (hY : Round2 Fence.wide (n - 1) l St W) (hS : Nums W W.heap.size A len zs) :
    CallsIn Fence.wide n Try.prog 67 #[.slice A len cap, .func (.yield l) #[] #[]] W fun e W' => (∃ v, e = .returned v) ∧
      ((apartTo zs len ∧ ∃ q, W' = W.drewN q) ∨ (¬ apartTo zs len ∧ ∃ q, St (W.drewN q) W')) := by
  have HS := Lib.hid hS
  clear hS
  refine callsIn_of_wp Try.func67 rfl trivial ?_ rfl
  simp only [Try.ntmps67, List.size_toArray, List.length_cons, List.length_nil, Nat.reduceAdd, Nat.reduceSub, Array.replicate_succ, Array.replicate_zero, List.push_toArray, List.append_toArray, List.nil_append, List.cons_append]
  gi_wp2
  gi_loopw [4] (fun i wr => ∃ (k q : Nat), i = .int .i64 ((k : Int) + 1) ∧ k ≤ len ∧ apartTo zs (k + 1) ∧ wr = W.drewN q)
    (fun i _ => len + 2 - (intOf i).toNat)
  case atStart => exact ⟨0, 0, rfl, Nat.zero_le _, fun j h => absurd h (by omega), rfl⟩
  case round =>
    obtain ⟨k, q, rfl, hk, hap, hq⟩ := hrel
    have HP := Lib.hid hap
    have HQ := Lib.hid hq
    clear hap hq
    by_cases hlt : k + 1 < len
    · obtain ⟨b, off, rfl, hb, hc⟩ := HS.out.2 (by omega)
      obtain ⟨x, hx⟩ : ∃ x, x = zs[k]?.getD 0 := ⟨_, rfl⟩
      obtain ⟨y, hy⟩ : ∃ y, y = zs[k + 1]?.getD 0 := ⟨_, rfl⟩
      have c1 : wr.cell? ⟨b, off + k, none⟩ = some (.int .i64 x) := by rw [HQ.out, hx]; exact hc k (by omega)
      have c2 : wr.cell? ⟨b, off + (k + 1), none⟩ = some (.int .i64 y) := by rw [HQ.out, hy]; exact hc (k + 1) hlt
      have HX := Lib.hid hx
      have HY := Lib.hid hy
      have hR := hY (q + 1) x y
      have hw1 : W.drewN (q + 1) = wr.drew := by rw [HQ.out]; rfl
      rw [hw1] at hR
      clear hx hy hc hw1
      obtain ⟨fn, tmps, assign, body, hyl, hR⟩ := hR
      have hmx : Try.prog.follows .mixedOrders = true := by kernel_rfl
      have i0 : (0 : Int) ≤ (k : Int) := by omega
      have i1 : (k : Int) < (len : Int) := by omega
      have i2 : (0 : Int) ≤ (k : Int) + 1 := by omega
      have i3 : (k : Int) + 1 < (len : Int) := by omega
      have e1 : IntKind.i64.wrap (k : Int) = (k : Int) := IntWalk.i64_in _ (by omega)
      by_cases hxy : x = y
      · have hR2 := hR.mono (R' := fun e W' => e = .returned (.bool false) ∧ Hid (St wr.drew W')) (by
          rintro e w' ⟨rfl, h⟩
          exact ⟨by simp [hxy], (h.resolve_left (fun c => c.1 hxy)).2⟩)
        have HN : Hid (¬ apartTo zs len) := fun h => h k hlt (HX.out.symm.trans (hxy.trans HY.out))
        clear hR hxy
        gi_wp2
        gi_region_with_o (refine hR2.mono ?_; rintro e w' ⟨rfl, hw'⟩)
        all_goals gi_wp2
        all_goals (refine bodyPost_ret (results_none rfl _ _ _) rfl ?_)
        all_goals exact ⟨⟨_, rfl⟩, .inr ⟨HN.out, q + 1, by have := hw'.out; rw [HQ.out] at this; exact this⟩⟩
      · have hR2 := hR.mono (R' := fun e W' => e = .returned (.bool true) ∧ W' = wr.drew) (by
          rintro e w' ⟨rfl, h⟩
          exact ⟨by simp [hxy], (h.resolve_right (fun c => hxy c.1)).2⟩)
        have HN : Hid (apartTo zs (k + 1 + 1)) := fun j hj => by
          by_cases e : j = k
          · subst e; exact fun h => hxy (HX.out.trans (h.trans HY.out.symm))
          · exact HP.out j (by omega)
        clear hR hxy
        gi_wp2
        gi_region_with_o (refine hR2.mono ?_; rintro e w' ⟨rfl, rfl⟩)
        all_goals gi_wp2
        all_goals go_roundw
        case rel => exact ⟨k + 1, q + 1, by go_num, by omega, HN.out, by rw [HQ.out]; rfl⟩
        case measure => simp [intOf]; omega
        case rel => exact ⟨k + 1, q + 1, by go_num, by omega, HN.out, by rw [HQ.out]; rfl⟩
        case measure => simp [intOf]; omega
    · have HN : Hid (apartTo zs len) := fun j hj => HP.out j (by omega)
      gi_wp2
      go_end0
      exact ⟨⟨_, rfl⟩, .inl ⟨HN.out, q, HQ.out⟩⟩

end Go.Proofs.Ytakhjdodljhfmaa.Tx
namespace Go.Proofs.Ytakhjdodljhfmaa.Tx
open Go.RowKit

theorem put_put (W : World) (l : Nat) (o o' : Obj) : (W.putObj l o).putObj l o' = W.putObj l o' := by
  simp [World.putObj]
theorem put_same (W : World) (l : Nat) (o : Obj) (h : W.heap[l]? = some o) : W.putObj l o = W := by
  obtain ⟨hl, he⟩ := Array.getElem?_eq_some_iff.1 h
  unfold World.putObj
  congr 1
  apply Array.ext_getElem?
  intro i
  rw [Array.getElem?_setIfInBounds]
  by_cases e : l = i
  · subst e; rw [if_pos rfl, if_pos hl, h]
  · rw [if_neg e]

/-- How such a body may be left. -/
def quietPost (go : Bool) (B : Nat) (v : Value) (W : World) : Exit → Act → World → Prop
  | .normal, _, W' => go = true ∧ W' = W
  | .ret, _, W' => go = false ∧ W' = W.setCell ⟨B, 0, none⟩ v
  | .exit _, _, _ => False
  | .goto _, _, _ => False
  | .panic _, _, _ => False
  | .outgrown, _, _ => False

/-- What the iterator does, whatever a round that says no has come to (St): it goes through; or it is told to stop. -/
def Walks {α : Type} (n : Nat) (P : Program) (gf : Nat) (bd : Array Value) (encs : α → Array Value) (go : α → Bool) (S Sx : Prop) (w : World) : Prop :=
  ∀ (l : Nat) (St : World → World → Prop) (W : World), Below w.heap.size w W →
    (∀ q x, YieldAt Fence.wide (n - 1) P l (encs x) (W.drewN q) fun e W' => e = .returned (.bool (go x)) ∧ ((go x = true ∧ W' = W.drewN q) ∨ (go x = false ∧ St (W.drewN q) W'))) →
    CallsIn Fence.wide n P gf (bd ++ #[.func (.yield l) #[] #[]]) W fun e W' => (∃ v, e = .returned v) ∧ ((S ∧ ∃ q, W' = W.drewN q) ∨ (Sx ∧ ∃ q, St (W.drewN q) W'))

theorem range_bound {α : Type} {P : Program} {n : Nat} {g : Operand} {ps : Array Tmp} {assign body : Code} {Q : Exit → Act → World → Prop} {a : Act} {w : World}
    (h1 : 1 ≤ n) {gf : Nat} {bd : Array Value} (hg : a.eval g = .func (.func gf) bd #[]) (eg : ∀ args w, (callFunc gf args).run P w = .ok (.enter gf args) w)
    {encs : α → Array Value} (hps : ∀ x, (encs x).size = ps.size) {go : α → Bool} {S Sx : Prop} (hit : Walks (n - 1) P gf bd encs go S Sx w) (a₁ : α → Act) (B : Nat) (v : Value) (hB : B < w.heap.size)
    (hassign : ∀ (l : Nat) (x : α) (W : World) (K : Act → World → Prop), K (a₁ x) W →
      assign.wpIn (Fence.wide.inRound l) (n - 1 - 1) P (Exit.then K (fun _ _ _ => False)) { tmps := (ps.zip (encs x)).foldl (fun t (p, v) => t.setIfInBounds p v) a.tmps, defers := [] } W)
    (hbody : ∀ (l : Nat) (x : α) (W : World), Below w.heap.size w W → body.wpIn (Fence.wide.inRound l) (n - 1 - 1) P (quietPost (go x) B v W) (a₁ x) W)
    (hdone : ∀ (D : Nat) (W : World), w.heap.size ≤ D → S → Below w.heap.size w W → W.heap[D]? = some (.deferred (some [])) → Q .normal { a with defers := { target := .collected D, args := #[] } :: a.defers } W)
    (hstop : ∀ (D : Nat) (W : World), w.heap.size ≤ D → Sx → Below w.heap.size (w.setCell ⟨B, 0, none⟩ v) W → W.heap[D]? = some (.deferred (some [])) → Code.ret.wpIn Fence.wide n P Q { a with defers := { target := .collected D, args := #[] } :: a.defers } W) :
    (Code.rangeFunc g ps assign body).wpIn Fence.wide n P Q a w := by
  refine wpIn_rangeFunc ?_
  intro fn hfn
  obtain ⟨rc, hrc⟩ : ∃ rc : LoopState → Option Code → Loop, rc = fun st pe => { state := st, pending := pe, fn, tmps := a.tmps, params := ps, assign, body, defers := w.heap.size } := ⟨_, rfl⟩
  obtain ⟨W1, hW1⟩ : ∃ W1, W1 = (w.alloc (.deferred (some []))).alloc (.loop (rc .ready none)) := ⟨_, rfl⟩
  have hb1 : Below w.heap.size w W1 := by rw [hW1]; exact ((Below.refl _ w).alloc (Nat.le_refl _) _).alloc (by simp) _
  have hl1 : W1.heap[w.heap.size + 1]? = some (.loop (rc .ready none)) := by
    rw [hW1]; have h := World.alloc_heap_new (w.alloc (.deferred (some []))) (.loop (rc .ready none)); rwa [World.size_alloc] at h
  have hd1 : W1.heap[w.heap.size]? = some (.deferred (some [])) := by
    rw [hW1]; exact (Below.heap_alloc _ _ _ (by simp)).trans (World.alloc_heap_new w _)
  have hlt1 : w.heap.size + 1 < W1.heap.size := (Array.getElem?_eq_some_iff.1 hl1).1
  refine ⟨w.heap.size + 1, [{ target := .collected w.heap.size, args := #[] }], W1, { target := .fn (.func gf) #[], args := bd ++ #[.func (.yield (w.heap.size + 1)) #[] #[]] }, W1, gf, bd ++ #[.func (.yield (w.heap.size + 1)) #[] #[]], W1, ?_, ?_, ?_, ?_, fun _ => h1, ?_⟩
  · rw [hW1, hrc]; exact run_enterLoop_outer _ _ _ _ _
  · simp only [resolve, hg]
    simp [go_sem]
  · intro f' _; trivial
  · simp [invoke, eg]
  · refine (hit (w.heap.size + 1) (fun A A' => A' = ((A.putObj (w.heap.size + 1) (.loop (rc .busy none))).setCell ⟨B, 0, none⟩ v).putObj (w.heap.size + 1) (.loop (rc .done (some .ret)))) W1 hb1 ?_).mono ?_
    · intro q x
      have hl : (W1.drewN q).heap[w.heap.size + 1]? = some (.loop (rc .ready none)) := hl1
      have hy := run_yield (P := P) (args := encs x) hl (by rw [hrc]; exact hps x)
      have hbg := run_beginRound (P := P) hl (by rw [hrc])
      have hlB : ((W1.drewN q).putObj (w.heap.size + 1) (.loop (rc .busy none))).heap[w.heap.size + 1]? = some (.loop (rc .busy none)) := World.putObj_heap_same hlt1
      have hbel : Below w.heap.size w ((W1.drewN q).putObj (w.heap.size + 1) (.loop (rc .busy none))) :=
        ⟨hb1.os, hb1.tape, hb1.output, by rw [World.putObj]; simpa using hb1.size, fun k hk => (World.putObj_heap_other (by omega)).trans (hb1.block k hk)⟩
      have hw := hbody (w.heap.size + 1) x _ hbel
      rw [hrc] at hy hbg
      refine ⟨fn, _, assign, body, hy, roundIn_of_wpIn hfn (hassign _ x _ _ ⟨_, hbg, ?_⟩)⟩
      rw [hrc] at hw
      refine wpIn_mono hw ?_
      intro e a3 W3 hp
      cases e with
      | normal =>
        obtain ⟨hgo, rfl⟩ := hp
        rw [hrc] at hlB
        have hr := run_endRound (P := P) none hlB
        refine ⟨_, _, hr, by rw [hgo]; rfl, .inl ⟨hgo, ?_⟩⟩
        rw [put_put]
        exact put_same _ _ _ (by rw [hrc] at hl; exact hl)
      | ret =>
        obtain ⟨hgo, rfl⟩ := hp
        rw [hrc] at hlB
        have hr := run_endRound (P := P) (some .ret) ((Below.heap_setCell _ ⟨B, 0, none⟩ v _ (by show w.heap.size + 1 ≠ B; omega)).trans hlB)
        exact ⟨_, _, hr, by rw [hgo]; rfl, .inr ⟨hgo, by rw [hrc]; rfl⟩⟩
      | exit id => exact hp.elim
      | goto t => exact hp.elim
      | panic ch => exact hp.elim
      | outgrown => exact hp.elim
    · rintro e W2 ⟨⟨r, rfl⟩, (⟨hS, q, rfl⟩ | ⟨hSx, q, rfl⟩)⟩
      · have hl : (W1.drewN q).heap[w.heap.size + 1]? = some (.loop (rc .ready none)) := hl1
        refine ⟨none, _, by have := run_endLoop (P := P) hl (by rw [hrc]; simp); rw [hrc] at this; exact this, ?_⟩
        refine hdone w.heap.size _ (Nat.le_refl _) hS ?_ ((World.putObj_heap_other (by omega)).trans hd1)
        exact ⟨hb1.os, hb1.tape, hb1.output, by simpa using hb1.size, fun k hk => (World.putObj_heap_other (by omega)).trans (hb1.block k hk)⟩
      · have hs3 : w.heap.size + 1 < (((W1.drewN q).putObj (w.heap.size + 1) (.loop (rc .busy none))).setCell ⟨B, 0, none⟩ v).heap.size := by simpa using hlt1
        have hpe : (rc .done (some .ret)).pending = some .ret := by rw [hrc]
        have hel := run_endLoop (P := P) (World.putObj_heap_same hs3 (o := .loop (rc .done (some .ret)))) (by rw [hrc]; simp)
        rw [hpe] at hel
        refine ⟨some .ret, _, hel, ?_⟩
        refine hstop w.heap.size _ (Nat.le_refl _) hSx ?_ ?_
        · refine ⟨hb1.os, hb1.tape, hb1.output, by simpa using hb1.size, fun k hk => ?_⟩
          refine (World.putObj_heap_other (by omega)).trans ((World.putObj_heap_other (by omega)).trans ?_)
          simp only [World.setCell, Array.getElem?_modify]
          rw [World.putObj_heap_other (by omega), show (W1.drewN q).heap[k]? = w.heap[k]? from hb1.block k hk]
        · refine (World.putObj_heap_other (by omega)).trans ((World.putObj_heap_other (by omega)).trans ((Below.heap_setCell _ _ _ _ (by show w.heap.size ≠ B; omega)).trans ((World.putObj_heap_other (by omega)).trans hd1)))

end Go.Proofs.Ytakhjdodljhfmaa.Tx
namespace Go.Proofs.Ytakhjdodljhfmaa.Tx
open Go.RowKit Go.Shelf
open Go.Lib (compareInt)
open Go.Sort (Holds PermIn SortedIn)

attribute [local go_sem] Oper.semAt_some


theorem pairs_walk (n : Nat) (hn : 1 ≤ n) (A : Option Addr) (len cap : Nat) (zs : List Int) (hlen : len ≤ 1048576) (w : World) (hS : Nums w w.heap.size A len zs) :
    Walks n Try.prog 67 #[.slice A len cap] (fun p : Int × Int => #[.int .i64 p.1, .int .i64 p.2]) (fun p => !decide (p.1 = p.2)) (apartTo zs len) (¬ apartTo zs len) w := fun l St W hb hY =>
  neighbours_in n hn l A len cap zs hlen St W (fun q x y => (hY q (x, y)).mono fun e W' ⟨he, h⟩ => ⟨he, by
    by_cases hxy : x = y
    · exact .inr ⟨hxy, by simpa [hxy] using h⟩
    · exact .inl ⟨hxy, by simpa [hxy] using h⟩⟩) ((hS.below hb).mono hb.size)

theorem sorted_le {d : Array Int} {n : Nat} (h : SortedIn (ltOf compareInt) 0 n d) (hn : d.size = n) {i j : Nat} (hij : i < j) (hj : j < n) : d.toList[i]?.getD 0 ≤ d.toList[j]?.getD 0 := by
  have h1 := h i j (Nat.zero_le _) hij hj
  rw [lt_iff, decide_eq_false_iff_not] at h1
  rw [Array.getElem?_toList, Array.getElem?_toList, Array.getElem?_eq_getElem (by omega), Array.getElem?_eq_getElem (by omega)]
  simp only [Option.getD_some]
  rw [getElem!_pos _ _ (by omega), getElem!_pos _ _ (by omega)] at h1
  omega

theorem nodup_getD {l : List Int} : l.Nodup ↔ ∀ i j, i < j → j < l.length → l[i]?.getD 0 ≠ l[j]?.getD 0 := by
  rw [List.nodup_iff_pairwise_ne, List.pairwise_iff_getElem]
  constructor
  · intro h i j hij hj
    rw [List.getElem?_eq_getElem (by omega), List.getElem?_eq_getElem hj]
    exact h i j (by omega) hj hij
  · intro h i j hi hj hij
    have := h i j hij hj
    rw [List.getElem?_eq_getElem hi, List.getElem?_eq_getElem hj] at this
    exact this

theorem apart_iff {d : Array Int} {n : Nat} (h : SortedIn (ltOf compareInt) 0 n d) (hn : d.size = n) : apartTo d.toList n ↔ d.toList.Nodup := by
  have hl : d.toList.length = n := by simpa using hn
  rw [nodup_getD]
  constructor
  · intro ha i j hij hj
    have h1 := ha i (by omega)
    have h2 : d.toList[i]?.getD 0 ≤ d.toList[i + 1]?.getD 0 := sorted_le h hn (by omega) (by omega)
    by_cases e : j = i + 1
    · rw [e]; exact h1
    · have h3 : d.toList[i + 1]?.getD 0 ≤ d.toList[j]?.getD 0 := sorted_le h hn (by omega) (by omega)
      omega
  · intro ha j hj
    exact ha j (j + 1) (by omega) (by omega)

set_option maxRecDepth 100000 in
set_option maxHeartbeats 2000000 in
theorem AllUnlike_in (A : Option Addr) (n cap : Nat) (zs : List Int) (w : World) (h : Nums w w.heap.size A n zs) (hn : n ≤ 1048576) :
    CallsIn Fence.wide 4 Try.prog 59 #[.slice A n cap] w fun e w' => e = .returned (.bool (unlikeB zs)) ∧ Below w.heap.size w w' := by
  have bR := Boxed.new w 4 (.bool false)
  have hB0 : Below w.heap.size w (w.alloc (.cells #[.bool false] 4)) := (Below.refl _ w).alloc (Nat.le_refl _) _
  have hN0 : Nums (w.alloc (.cells #[.bool false] 4)) (w.alloc (.cells #[.bool false] 4)).heap.size A n zs := (h.below hB0).mono hB0.size
  have hd := callsIn_wide (n := 3) |>.2 (drawsOf_any A n cap zs _ hN0 hn)
  have HL := Lib.hid h.1
  clear hN0 h
  refine callsIn_of_wp_marks Try.func59 rfl trivial ?_ rfl
  simp only [Try.ntmps59, List.size_toArray, List.length_cons, List.length_nil, Nat.reduceAdd, Nat.reduceSub, Array.replicate_succ, Array.replicate_zero, List.push_toArray, List.append_toArray, List.nil_append, List.cons_append]
  gi_wp2_with (refine ⟨trivial, ?_⟩; gi_at_call 64; refine hd.mono ?_; rintro e w1 ⟨rfl, hrow, hb1⟩)
  rw [World.size_alloc] at hrow hb1
  have hz : zs.toArray.size = n := by simpa using HL.out
  have hH : Holds (Value.int .i64) w1 (w.heap.size + 1) 0 zs.toArray := fun j hj => by
    have hj' : j < n := by rw [← hz]; exact hj
    refine ⟨?_, by rw [Nat.zero_add]; exact hrow.frozen j⟩
    have hl : j < zs.length := by simpa using hj
    rw [Nat.zero_add, hrow.cell hj', getElem!_pos zs.toArray j hj, List.getElem?_eq_getElem hl]
    simp
  have hs := callsIn_wide (n := 3) |>.2 (SortFunc_any (w.heap.size + 1) n zs.toArray w1 hH hrow.lt (by rw [hz]; exact hn))
  rw [hz] at hs
  have HH := Lib.hid hH
  have HB1 := Lib.hid hb1
  have hlt1 := hrow.lt
  clear hrow hH hd hb1
  gi_wp2_with (refine ⟨trivial, ?_⟩; gi_at_call 65; refine hs.mono ?_; rintro e w2 ⟨rfl, d', m, os, hp, hso, hw2⟩; have HW := Lib.hid hw2; clear hw2)
  clear hs
  have hsz : d'.size = n := hp.1.trans hz
  have hb2 : Below (w.heap.size + 1) w1 w2 := by
    rw [HW.out]
    unfold sortWorld
    have h1 : Below (w.heap.size + 1) w1 (Go.Sort.putRow (Value.int .i64) (Go.Sort.ahead w1 m) (w.heap.size + 1) 0 d') := Go.Lib.below_putRow (Below.refl _ _) (Nat.le_refl _)
    exact ⟨h1.os, h1.tape, h1.output, by have := h1.size; simp [Go.Sort.grow] at this ⊢, fun k hk => (Go.Sort.heap_grow_old _ _ (by have := h1.size; omega)).trans (h1.block k hk)⟩
  have hN2 : Nums w2 w2.heap.size (some ⟨w.heap.size + 1, 0, none⟩) n d'.toList := by
    have hlt2 : w.heap.size + 1 < w2.heap.size := Nat.lt_of_lt_of_le hlt1 hb2.size
    refine ⟨by simpa using hsz, fun _ => ⟨w.heap.size + 1, 0, rfl, hlt2, fun j hj => ?_⟩⟩
    have h0 := Go.Sort.holds_putRow (Value.int .i64) (Go.Sort.ahead w1 m) (w.heap.size + 1) 0 zs.toArray d' (Go.Sort.holds_ahead _ _ _ _ _ _ HH.out) hp.1 j (by omega)
    rw [HW.out]
    unfold sortWorld
    rw [Go.Sort.cell?_grow _ _ _ (by have := World.block_lt_of_cell? _ _ h0.1; exact this), h0.1, Array.getElem?_toList, Array.getElem?_eq_getElem (by omega), getElem!_pos _ _ (by omega)]
    rfl
  have hiff : apartTo d'.toList n ↔ zs.Nodup := by
    rw [apart_iff hso hsz]
    have hpp := hp.2.2
    rw [Array.extract_eq_self_of_le (by omega), Array.extract_eq_self_of_le (by omega)] at hpp
    exact hpp.nodup_iff
  have HI := Lib.hid hiff
  have bR2 : Boxed w2 w.heap.size 4 (.bool false) := (hb2.block _ (by omega)).trans ((HB1.out.block _ (by omega)).trans bR)
  have hB2 : Below w.heap.size w w2 := hB0.trans ((HB1.out.mono (by omega)).trans (hb2.mono (by omega)))
  clear hiff hp hso hb2 hB0 bR
  refine range_bound (by decide) (gf := 67) (bd := #[.slice (some ⟨w.heap.size + 1, 0, none⟩) n n]) rfl (enters_of Try.func67 (by kernel_rfl) rfl) (fun _ => rfl) (pairs_walk 3 (by decide) _ n n d'.toList hn w2 hN2)
    (fun p => { tmps := #[.slice A n cap, undef, .pointer (some ⟨w.heap.size, 0, none⟩), .slice (some ⟨w.heap.size + 1, 0, none⟩) n n, .int .i64 p.1, .int .i64 p.2, .slice A n cap, .slice (some ⟨w.heap.size + 1, 0, none⟩) n n, .slice (some ⟨w.heap.size + 1, 0, none⟩) n n, .tuple #[], .slice (some ⟨w.heap.size + 1, 0, none⟩) n n, .func (.func 67) #[.slice (some ⟨w.heap.size + 1, 0, none⟩) n n] #[], .int .i64 p.1, .int .i64 p.2, undef, undef, undef], defers := [] }) w.heap.size (.bool false) bR2.lt ?assign ?body ?done ?stop
  case assign =>
    intro l x W K hK
    gi_wp2
    exact hK
  case body =>
    rintro l ⟨x, y⟩ W hb
    have b3 : Boxed W w.heap.size 4 (.bool false) := (hb.block _ bR2.lt).trans bR2
    have hc := b3.cell
    have hf := b3.frozen
    by_cases hxy : x = y
    · subst hxy
      gi_wp2
      exact ⟨by simp, rfl⟩
    · have hne : (x == y) = false := by rw [beq_eq_false_iff_ne]; exact hxy
      have HX := Lib.hid hxy
      clear hxy
      gi_wp2
      exact ⟨by simpa using HX.out, rfl⟩
  case done =>
    rintro D W hD hS hB hK
    have b3 : Boxed W w.heap.size 4 (.bool false) := (hB.block _ bR2.lt).trans bR2
    have hc := b3.cell
    have hf := b3.frozen
    have HU : Hid (unlikeB zs = true) := decide_eq_true (HI.out.1 hS)
    clear hS
    gi_wp2
    have hK' := (KeepsOthers.setCell W ⟨w.heap.size, 0, none⟩ (.bool true)).same D _ hK rfl
    refine ⟨by simp, .inl ⟨_, _, rfl, run_takeDeferred hK', ?_⟩⟩
    have hc5 := cell_kept (World.cell?_setCell_same' W ⟨w.heap.size, 0, none⟩ (.bool true) (by rw [hc]; rfl)) (grownBy_putObj' _ D (.deferred none)) (fun r e => by cases e; exact ⟨_, hK', rfl⟩)
    have hB3 : Below w.heap.size w W := hB2.trans (hB.mono hB2.size)
    refine ⟨.bool true, ?_, by rw [HU.out], (hB3.setCell (p := ⟨w.heap.size, 0, none⟩) (Nat.le_refl _) _).trans (belowK_b (w := w) (Nat.le_refl _) _ D _ _ (by have := hB2.size; omega) hK' rfl rfl)⟩
    simp [results, Try.f59, go_sem, hc5]
  case stop =>
    rintro D W hD hSx hB hK
    have b3 : Boxed W w.heap.size 4 (.bool false) := (hB.block _ bR2.lt).trans (bR2.set _)
    have hc := b3.cell
    have HU : Hid (unlikeB zs = false) := decide_eq_false (fun h => hSx (HI.out.2 h))
    clear hSx
    gi_wp2
    refine ⟨by simp, .inl ⟨_, _, rfl, run_takeDeferred hK, ?_⟩⟩
    have hc5 := cell_kept hc (grownBy_putObj' _ D (.deferred none)) (fun r e => by cases e; exact ⟨_, hK, rfl⟩)
    have hB3 : Below w.heap.size w W := (hB2.setCell (p := ⟨w.heap.size, 0, none⟩) (Nat.le_refl _) _).trans (hB.mono hB2.size)
    refine ⟨.bool false, ?_, by rw [HU.out], hB3.trans (belowK_b (w := w) (Nat.le_refl _) W D _ _ (by have := hB2.size; omega) hK rfl rfl)⟩
    simp [results, Try.f59, go_sem, hc5]

theorem AllUnlike_impl (A : Option Addr) (n cap : Nat) (zs : List Int) (w : World) (h : Nums w w.heap.size A n zs) (hn : n ≤ 1048576) :
    Calls Try.prog 59 #[.slice A n cap] w fun e w' => e = .returned (.bool (unlikeB zs)) ∧ Below w.heap.size w w' :=
  (callsIn_wide (n := 4)).1 (AllUnlike_in A n cap zs w h hn)

end Go.Proofs.Ytakhjdodljhfmaa.Tx
namespace Go.Proofs.Ytakhjdodljhfmaa.Tx
open Go.RowKit Go.Maps
open Go.ChangeMaps Go.MapKept Go.WideElems

theorem keyed : Keyed Try.prog 2 := int_keyed Try.underlying2
theorem zeroInt (w : World) : (zeroValue 3).run Try.prog w = .ok (.int .i64 0) w := by kernel_rfl
/-- Block b is the map of the places of zs. -/
def Places (w : World) (b : Nat) (zs : List Int) : Prop := w.ownsMap (H := Unit) Try.prog 2 (plainElem Try.prog 3) b zs.length (placesD zs zs.length)
theorem Places.lt {w : World} {b : Nat} {zs : List Int} (h : Places w b zs) : b < w.heap.size := World.ownsMap.lt h
theorem Places.kept {w w' : World} {b : Nat} {zs : List Int} {row : Option Nat} (h : Places w b zs) (hg : w.grownBy w' row) (hne : some b ≠ row) : Places w' b zs := World.ownsMap.kept h hg hne
theorem Places.on {w w' : World} {b : Nat} {zs : List Int} (h : Places w b zs) (hb : Below w.heap.size w w') : Places w' b zs := h.kept (row := none) ⟨hb.os, hb.tape, hb.output, hb.size, fun i hi _ => hb.block i hi⟩ (by simp)
theorem Places.alloc {w : World} {b : Nat} {zs : List Int} (h : Places w b zs) (o : Obj) : Places (w.alloc o) b zs := World.ownsMap.alloc h o

set_option maxHeartbeats 1000000 in
theorem placesOf_any (A : Option Addr) (n cap : Nat) (zs : List Int) (w : World) (h : Nums w w.heap.size A n zs) (hi : AllI64 zs) (hn : n ≤ 1048576) :
    Calls Try.prog 40 #[.slice A n cap] w fun e w' => e = .returned (.map (some w.heap.size)) ∧ Places w' w.heap.size zs ∧ Below w.heap.size w w' := by
  obtain ⟨hlen, hcells⟩ := h
  have HC := Lib.hid hcells
  have HL := Lib.hid hlen
  have HI := Lib.hid hi
  clear hcells hlen hi
  have hmm := @run_makeMap Try.prog
  go_enter Try.func40, Try.ntmps40
  go_wp2
  clear hmm
  go_loopw [9] (fun i wr => ∃ k : Nat, k ≤ n ∧ i = .int .i64 k ∧ wr.ownsMap (H := Unit) Try.prog 2 (plainElem Try.prog 3) w.heap.size k (placesD zs k) ∧ Below w.heap.size w wr) (fun i _ => n - (intOf i).toNat)
  case atStart => exact ⟨0, Nat.zero_le _, rfl, World.ownsMap_made _ _ _ _, (Below.refl _ _).alloc (Nat.le_refl _) _⟩
  case round =>
    obtain ⟨k, hk, rfl, hown, hB⟩ := hrel
    by_cases hlt : k < n
    · obtain ⟨b, off, rfl, hb, hc⟩ := HC.out (by omega)
      have hck := (hB.cell (p := ⟨b, off + k, none⟩) hb).trans (hc k hlt)
      obtain ⟨x, hx⟩ : ∃ x, x = zs[k]?.getD 0 := ⟨_, rfl⟩
      have hkey : keyOf Try.prog 2 (.int .i64 x) = some (.int .i64 x) := keyOf_int_mk Try.underlying2 (hx ▸ HI.out.at k)
      rw [← hx] at hck
      have HX := Lib.hid hx
      have HB := Lib.hid hB
      clear hc hx hB
      go_wp2_with (at_mapUpdate; refine wpList_mapUpdate_own _ rfl _ _ _ 52 rfl 2 3 keyed Try.underlying52 _ w.heap.size k _ rfl hown (by unfold maxLen; omega) _ _ _ rfl rfl hkey _ [] (plainElem_int Try.underlying3 (WalkArith.wf_i64 (by omega))) ?_; intro w1 hown1 hgrow1)
      go_roundw
      case rel => exact ⟨k + 1, by omega, by go_num, by rw [placesD, ← HX.out]; exact hown1, HB.out.grown hgrow1 HB.out.size (fun j hj => by cases hj; exact Nat.le_refl _)⟩
      case measure => simp [intOf]; omega
    · obtain rfl : k = n := by omega
      have HO := Lib.hid hown
      clear hown
      go_wp2
      go_ret
      exact ⟨rfl, by unfold Places; rw [HL.out]; exact HO.out, hB⟩

theorem size_all {zs : List Int} (hd : zs.Nodup) : Maps.size (placesD (H := Unit) zs zs.length) = zs.length := size_places hd _ (Nat.le_refl _)

/-- clear(m). -/
theorem clear_own {P : Program} {k e t : TypeId} {R : Value → Option (DataW Unit × List MemPlace)} {w : World} {b n : Nat} {D : DataW Unit} (h : w.ownsMap P k R b n D) (ht : P.underlying t = some (.map k e)) (ty : TypeId) :
    ∃ w', (Builtin.clear_ #[t] ty #[.map (some b)]).run P w = .ok (.tuple #[]) w' ∧ w'.ownsMap P k R b 0 (.map []) ∧ w.mapTurned w' b := by
  obtain ⟨es, clock, hb, F, hs, rfl⟩ := h
  exact ⟨setBlock w b (.map #[] clock), by simp [Builtin.clear_, run_underlying ht, MapKept.run_getObj_map hb, MapKept.run_setObj_map _ hb, Result.andThen, setBlock], ⟨#[], clock, heap_setBlock_same hb _, ⟨by simp, stamped_empty _, by simp⟩, Nat.le_refl _, rfl⟩, ⟨es, clock, #[], clock, hb, rfl⟩⟩
theorem wpList_clear_own {P : Program} (w : World) {ops : Array Oper} {rest : List Oper} {o : Oper} {a : Act} {Q : Exit → Act → World → Prop} (hg : o.guard = none) (m : Operand) (t : TypeId) (hop : o.op = Op.call { callee := Callee.builtin Builtin.clear, args := #[m], argTypes := #[t] })
    (k e : TypeId) (ht : P.underlying t = some (.map k e)) (R : Value → Option (DataW Unit × List MemPlace)) (b n : Nat) (D : DataW Unit) (hm : a.eval m = .map (some b)) (hown : w.ownsMap P k R b n D)
    (hK : ∀ w', w'.ownsMap P k R b 0 (.map []) → w.mapTurned w' b → wpList P ops Q rest (a.put o.dst (.tuple #[])) w') : wpList P ops Q (o :: rest) a w := by
  refine wpList_plain hg fun K' hK' => ?_
  obtain ⟨w', hrun, r1, r2⟩ := clear_own hown ht o.type
  unfold Oper.wp
  simp [execOp, hop, resolve, invoke, builtin, hm, hrun, Result.andThen]
  exact hK' _ _ (hK w' r1 r2)

theorem forget_any (r b : Nat) (zs : List Int) (s : Int) (w : World) (h : Places w b zs) (hr : w.heap[r]? = some (.cells #[.map (some b), .int .i64 s] 54 (0, 0))) :
    Calls Try.prog 42 #[.pointer (some ⟨r, 0, none⟩)] w fun e w' => e = .returned (.tuple #[]) ∧ Places w' b [] ∧ w'.heap[r]? = some (.cells #[.map (some b), .int .i64 0] 54 (0, 0)) ∧ ∀ B, B ≤ r → B ≤ b → Below B w w' := by
  have hc0 := blk_cell hr 0
  have hlt := h.lt
  have hne : b ≠ r := fun e => by
    subst e
    obtain ⟨es, clock, hb, _⟩ := h
    rw [hb] at hr; cases hr
  have H := Lib.hid h
  have HR := Lib.hid hr
  clear h hr
  go_enter Try.func42, Try.ntmps42
  go_wp2_with (refine wpList_clear_own _ rfl _ 52 rfl 2 3 Try.underlying52 _ b zs.length (placesD (H := Unit) zs zs.length) rfl H.out ?_; intro w1 hown1 hturn1; have HO := Lib.hid hown1; have HT := Lib.hid hturn1; have hc := blk_cell ((hturn1.grown.block r (blk_in HR.out) (by intro e; exact hne (Option.some.inj e).symm)).trans HR.out) 1; have hf := blk_frozen ((hturn1.grown.block r (blk_in HR.out) (by intro e; exact hne (Option.some.inj e).symm)).trans HR.out) 1; clear hown1 hturn1)
  go_end0
  have hb1 := (HT.out.grown.block r (blk_in HR.out) (by intro e; exact hne (Option.some.inj e).symm)).trans HR.out
  refine ⟨rfl, World.ownsMap.setCell HO.out hne _, blk_put hb1 _, fun B h1 h2 => ?_⟩
  exact ((Below.refl B w).grown HT.out.grown (by omega) (fun j e => by cases e; exact h2)).setCell (p := ⟨r, 1, none⟩) h1 _

/-- What has been filled in: the numbers that are no longer to come. -/
def filled (zs : List Int) (left : Lit → Bool) (j : Nat) : Value := .int .i64 (if left (.int .i64 (zs[j]?.getD 0)) = true then 0 else zs[j]?.getD 0)
theorem filled_start {zs : List Int} {j : Nat} (hj : j < zs.length) : filled zs (Maps.has (placesD (H := Unit) zs zs.length)) j = .int .i64 0 := by
  unfold filled
  rw [has_places zs _ _ (Nat.le_refl _), List.take_of_length_le (Nat.le_refl _), decide_eq_true, if_pos rfl]
  rw [List.getElem?_eq_getElem hj]; exact List.getElem_mem _
theorem filled_step {zs : List Int} (hd : zs.Nodup) (left : Lit → Bool) {i j : Nat} (hi : i < zs.length) (hj : j < zs.length) :
    filled zs (fun z => left z && !z.sameKey (.int .i64 (zs[i]?.getD 0))) j = if j = i then .int .i64 (zs[i]?.getD 0) else filled zs left j := by
  unfold filled
  by_cases e : j = i
  · subst e
    simp [WideAt.sameKey_self (key_i64 _)]
  · have h1 := Maps.sameKey_ne (lit_ne (fun e' => e (nodup_inj hd hj hi e')))
    simp [e, h1]
theorem filled_end {zs : List Int} {left : Lit → Bool} (h : ∀ kl, left kl = false) (j : Nat) : filled zs left j = .int .i64 (zs[j]?.getD 0) := by
  unfold filled
  rw [h]; rfl

theorem only_cell (w : World) (g k : Nat) (u : Value) : w.grownBy (w.setCell ⟨g, k, none⟩ u) (some g) :=
  ⟨rfl, rfl, rfl, by simp [World.setCell], fun i _ hne => Below.heap_setCell w ⟨g, k, none⟩ u i (by rintro rfl; exact hne rfl)⟩

set_option maxRecDepth 100000 in
set_option maxHeartbeats 2000000 in
theorem told_any (b : Nat) (zs : List Int) (hd : zs.Nodup) (hn : zs.length ≤ 1048576) (s : Int) (w : World) (h : Places w b zs) :
    Calls Try.prog 26 #[.agg #[.map (some b), .int .i64 s]] w fun e w' => e = .returned (.agg #[.slice (some ⟨w.heap.size + 2, 0, none⟩) zs.length zs.length, .int .i64 s]) ∧
      w'.rowIs (w.heap.size + 2) 2 zs.length (fun i => .int .i64 (zs[i]?.getD 0)) ∧ Below w.heap.size w w' := by
  have hs := size_all hd
  have hlt := h.lt
  obtain ⟨V, hV⟩ : ∃ V, (w.alloc (.cells #[.map (some b), .int .i64 s] 54)).alloc (.cells #[.slice none 0 0, .int .i64 0] 36) = V := ⟨_, rfl⟩
  have H : Hid (Places V b zs) := by rw [← hV]; exact (h.alloc _).alloc _
  have K : Hid (Below w.heap.size w V) := by rw [← hV]; exact ((Below.refl _ w).alloc (Nat.le_refl _) _).alloc (by simp) _
  have B0 : Hid (V.heap[w.heap.size]? = some (.cells #[.map (some b), .int .i64 s] 54)) := by rw [← hV]; exact heap2a w _ _
  have R0 : Hid (V.heap[w.heap.size + 1]? = some (.cells #[.slice none 0 0, .int .i64 0] 36)) := by rw [← hV]; exact heap2b w _ _
  have sV : V.heap.size = w.heap.size + 2 := by rw [← hV]; simp
  have c0 := blk_cell B0.out 0
  have hmk := run_make_row' (P := Try.prog) 34 2 (.int .i64 0) 8 Try.underlying34 infoInt64 rfl .i64 .i64 zs.length (by omega) (by omega)
  clear h
  go_enter Try.func26, Try.ntmps26
  go_wp2_with (first
    | (at_len; refine wpList_len_own _ rfl _ 52 rfl 2 3 Try.underlying52 _ b zs.length (placesD (H := Unit) zs zs.length) rfl H.out ?_; rw [hs])
    | (at_range; refine wpList_range_own _ rfl _ 52 rfl 2 3 keyed Try.underlying52 _ b zs.length (placesD (H := Unit) zs zs.length) rfl (World.ownsMap.alloc H.out _) ?_; intro w0 hrg0 hg0 hs0))
  go_frame
  clear hmk hV
  have e1 : (V.alloc (.cells (madeCells #[.int .i64 0] zs.length) 2)).heap.size = w.heap.size + 3 := by rw [World.size_alloc, sV]
  rw [e1] at hrg0 hs0 ⊢
  have M0 := Lib.hid (World.rowIs_made V (.int .i64 0) zs.length 2)
  rw [sV] at M0
  have hB0 : Below (w.heap.size + 2) V w0 := ((Below.refl _ V).alloc (by omega) _).grown hg0 (by rw [e1]; omega) (fun j e => by cases e)
  have M1 : Hid (w0.rowIs (w.heap.size + 2) 2 zs.length (filled zs (Maps.has (placesD (H := Unit) zs zs.length)))) := by
    obtain ⟨c, hc, r⟩ := M0.out
    exact World.rowIs.congr ⟨c, (hg0.block _ (by rw [e1]; omega) (by simp)).trans hc, r⟩ (fun j hj => (filled_start hj).symm)
  go_loopw [13] (fun _ wr => ∃ (left : Lit → Bool) (cnt : Nat), wr.ranges (H := Unit) Try.prog 2 (plainElem Try.prog 3) b (w.heap.size + 3) zs.length (placesD zs zs.length) left cnt ∧ wr.rowIs (w.heap.size + 2) 2 zs.length (filled zs left) ∧ Below (w.heap.size + 2) V wr)
    (fun _ wr => wr.rangeLeft b (w.heap.size + 3))
  case atStart => exact ⟨_, _, hrg0, M1.out, hB0⟩
  case round =>
    obtain ⟨left, cnt, hrg, hrow, hB⟩ := hrel
    clear hrg0 hg0 hs0 M0 M1 hB0 e1
    go_wp2_with (at_next; refine wpList_next_ranges_ii _ rfl _ rfl 2 3 .i64 .i64 keyed Try.underlying2 Try.underlying3 b (w.heap.size + 3) zs.length _ _ _ rfl hrg ?_ ?_)
    · intro hc0 hl0
      have HR := Lib.hid (hrow.congr (fun j _ => filled_end hl0 j))
      have b1 := blk_cell ((hB.block _ (by omega)).trans B0.out) 1
      have R1 := Lib.hid ((hB.block _ (by omega)).trans R0.out)
      have r0 := blk_cell R1.out 0
      have r1 := blk_cell R1.out 1
      have f0 := blk_frozen R1.out 0
      have f1 := blk_frozen R1.out 1
      have HB := Lib.hid (K.out.trans (hB.mono (by omega)))
      clear hrow hB hrg hl0
      go_wp2
      exact row_ret (r := w.heap.size + 1) (cs := #[.slice (some ⟨w.heap.size + 2, 0, none⟩) zs.length zs.length, .int .i64 s]) rfl rfl (setAll_whole (vs := [.slice (some ⟨w.heap.size + 2, 0, none⟩) zs.length zs.length, .int .i64 s]) R1.out rfl) Try.underlying36 rfl (by kernel_rfl) rfl
        ⟨rfl, World.rowIs.setOther (a := ⟨w.heap.size + 1, 1, none⟩) (World.rowIs.setOther (a := ⟨w.heap.size + 1, 0, none⟩) HR.out (by simp) _) (by simp) _, (HB.out.setCell (p := ⟨w.heap.size + 1, 0, none⟩) (by simp) _).setCell (p := ⟨w.heap.size + 1, 1, none⟩) (by simp) _⟩
    · intro x c w1 cnt1 hwx hwc hlx hat hrg1 hcl hg1 hs1 hen
      obtain ⟨i, hi, rfl, hx⟩ := place_of hd hat
      have HX := Lib.hid hx
      clear hx
      have hrow1 : w1.rowIs (w.heap.size + 2) 2 zs.length (filled zs left) := by
        obtain ⟨c, hc, r⟩ := hrow
        exact ⟨c, (hg1.block _ (blk_in hc) (by intro e; have := Option.some.inj e; omega)).trans hc, r⟩
      have hB1 : Below (w.heap.size + 2) V w1 := hB.grown hg1 (by have := hB.size; omega) (fun j e => by cases e; omega)
      have g1 := hrow1.cell hi
      have g2 := hrow1.frozen i
      have HR := Lib.hid hrow1
      have HG := Lib.hid hrg1
      have HB := Lib.hid hB1
      have HL := Lib.hid (hrg.left_eq)
      clear hrow hrow1 hrg hrg1 hB hB1 hat hg1 hs1
      go_wp2
      go_roundw
      case rel =>
        refine ⟨fun z => left z && !z.sameKey (.int .i64 x), cnt1, ?_, (World.rowIs.set HR.out i _).congr (fun j hj => by rw [HX.out]; exact (filled_step hd left hi hj).symm), HB.out.setCell (p := ⟨w.heap.size + 2, i, none⟩) (Nat.le_refl _) _⟩
        exact HG.out.kept (row := some (w.heap.size + 2)) (only_cell _ _ _ _) (by intro e; have := Option.some.inj e; omega) (by intro e; have := Option.some.inj e; omega)
      case measure =>
        have hk := HG.out.kept (row := some (w.heap.size + 2)) (only_cell w1 (w.heap.size + 2) i (.int .i64 x)) (by intro e; have := Option.some.inj e; omega) (by intro e; have := Option.some.inj e; omega)
        rw [hk.left_eq, HL.out]; exact hcl

end Go.Proofs.Ytakhjdodljhfmaa.Tx
namespace Go.Proofs.Ytakhjdodljhfmaa.Tx
open Go.RowKit


set_option maxHeartbeats 2000000 in
theorem where_any (A : Option Addr) (n cap : Nat) (zs : List Int) (w : World) (h : Nums w w.heap.size A n zs) (hn : n ≤ 1048576) :
    Calls Try.prog 62 #[.slice A n cap, .func (.func 58) #[] #[]] w fun e w' => (∃ (B : Option Addr) (c : Nat), e = .returned (.slice B (zs.filter isDrawB).length c)) ∧ Below w.heap.size w w' := by
  obtain ⟨i0, hi, hz0, hz1, hz2⟩ := info_parts infoInt64
  have HL := Lib.hid h.1
  have HC := Lib.hid h.2
  clear h
  go_enter Try.func62, Try.ntmps62
  go_wp2
  go_loopw [5, 11] (fun v i wr => ∃ (j : Nat) (g c : Nat), j ≤ n ∧ i = .int .i64 j ∧ v = .slice (some ⟨g, 0, none⟩) ((zs.take j).filter isDrawB).length c ∧ Hid (OwnN wr w.heap.size ((zs.take j).filter isDrawB) (some ⟨g, 0, none⟩) ((zs.take j).filter isDrawB).length c) ∧ Hid (Below w.heap.size w wr)) (fun _ i _ => n - (intOf i).toNat)
  case atStart => exact ⟨0, w.heap.size, 0, Nat.zero_le _, rfl, rfl, ⟨World.ownsRow_made w #[] 0 (Nat.le_refl _) (Nat.zero_le _) rfl⟩, (Below.refl _ w).alloc (Nat.le_refl _) _⟩
  case round =>
    obtain ⟨j, g, c, hj, rfl, rfl, hO, hB⟩ := hrel
    have hfl : ((zs.take j).filter isDrawB).length ≤ n := Nat.le_trans (List.length_filter_le _ _) (by rw [List.length_take, HL.out]; omega)
    by_cases hlt : j < n
    · obtain ⟨b, off, rfl, hb, hc⟩ := HC.out (by omega)
      have hck := (hB.out.cell (p := ⟨b, off + j, none⟩) hb).trans (hc j hlt)
      obtain ⟨y, hy⟩ : ∃ y, y = zs[j]?.getD 0 := ⟨_, rfl⟩
      rw [← hy] at hck
      have HT : Hid ((zs.take (j + 1)).filter isDrawB = (zs.take j).filter isDrawB ++ if isDrawB y = true then [y] else []) := by
        show _ = _
        rw [take_snocN zs j (by rw [HL.out]; exact hlt), List.filter_append, ← hy]
        by_cases h : isDrawB y = true <;> simp [h]
      clear hc hy
      generalize hL : (zs.take j).filter isDrawB = L at hO HT hfl ⊢
      clear hL
      have cD := IsDraw_same y
      have hlo := (hO.out.lt (g := g) rfl).2
      have hbs := hB.out.size
      cases hd : isDrawB y with
      | false =>
        rw [hd] at cD HT
        clear hd
        go_wp2_with fail
        refine (cD _).mono ?_
        rintro e w1 ⟨rfl, rfl⟩
        go_wp2
        go_roundw
        case rel => exact ⟨j + 1, g, c, by omega, by go_num, by rw [HT.out]; simp, by rw [HT.out]; simpa using hO, hB⟩
        case measure => simp [intOf]; omega
      | true =>
        rw [hd] at cD HT
        clear hd
        go_wp2_with fail
        refine (cD _).mono ?_
        rintro e w1 ⟨rfl, rfl⟩
        go_wp2_with (at_builtin; refine wpList_append_own _ rfl _ _ 58 rfl w.heap.size 2 i0 (.int .i64 0) 1 8 Try.underlying58 hi hz0 hz1 hz2 rfl (by decide) _ _ _ rfl (hO.out.own.alloc _) ⟨wr.heap.size, 0, none⟩ 1 1 [.int .i64 y] rfl rfl (cell_one_new _ _ _) (by simp [Value.oneCell']) (by unfold maxLen; omega) (by omega) (by simp; omega) ?_; intro v' w3 hown' hgrow _; obtain ⟨g', c', rfl, hM'⟩ := OwnN.snoc hown'; have M' := Lib.hid hM'; have GR := Lib.hid hgrow; clear hown' hgrow hM')
        go_roundw
        case rel => exact ⟨j + 1, g', c', by omega, by go_num, by rw [HT.out]; simp, by rw [HT.out]; simpa using M', (hB.out.alloc hB.out.size _).grown GR.out (by simp; omega) (fun k e => by have e1 : g = k := Option.some.inj e; have := hO.out.lt (g := g) rfl; omega)⟩
        case measure => simp [intOf]; omega
    · obtain rfl : j = n := by omega
      rw [List.take_of_length_le (by rw [HL.out]; exact Nat.le_refl _)]
      go_wp2
      go_ret
      exact ⟨⟨_, _, rfl⟩, hB.out⟩

theorem all_any (A : Option Addr) (n cap : Nat) (zs : List Int) (w : World) (h : Nums w w.heap.size A n zs) (hn : n ≤ 1048576) :
    Calls Try.prog 57 #[.slice A n cap, .func (.func 58) #[] #[]] w fun e w' => e = .returned (.bool (zs.all isDrawB)) ∧ Below w.heap.size w w' := by
  have cW := where_any A n cap zs w h hn
  have he : (((zs.filter isDrawB).length : Int) == (n : Int)) = zs.all isDrawB := by
    rw [← h.1, Bool.eq_iff_iff, List.all_eq_true, beq_iff_eq]
    exact ⟨fun e => List.length_filter_eq_length_iff.1 (by omega), fun e => by rw [List.length_filter_eq_length_iff.2 e]⟩
  generalize (zs.filter isDrawB).length = m at cW he
  generalize zs.all isDrawB = y at he ⊢
  clear h
  go_enter Try.func57, Try.ntmps57
  go_wp2_with fail
  refine cW.mono ?_
  rintro e w1 ⟨⟨B, c, rfl⟩, b⟩
  go_wp2
  go_ret
  exact ⟨rfl, b⟩

theorem eq_flaws (a b c d : Bool) (w : World) : (Op.equalIn 10000 105 (.agg #[.bool a, .bool b, .bool c, .bool d]) (.agg #[.bool false, .bool false, .bool false, .bool false])).run Try.prog w = .ok (!a && (!b && (!c && !d))) w := by
  cases a <;> cases b <;> cases c <;> cases d <;> simp [go_sem]

set_option maxRecDepth 100000 in
set_option maxHeartbeats 2000000 in
theorem flawsOf_any (A : Option Addr) (n cap : Nat) (zs : List Int) (s : Int) (w : World) (h : Nums w w.heap.size A n zs) (hn : n ≤ 1048576) :
    Calls Try.prog 53 #[.agg #[.slice A n cap, .int .i64 s]] w fun e w' => e = .returned (.agg #[.bool (decide (6 < n)), .bool (!zs.all isDrawB), .bool (!unlikeB zs), .bool (!inB s 0 100000)]) ∧ Below w.heap.size w w' := by
  obtain ⟨V, hV⟩ : ∃ V, (w.alloc (.cells #[.slice A n cap, .int .i64 s] 36)).alloc (.cells #[.bool false, .bool false, .bool false, .bool false] 105) = V := ⟨_, rfl⟩
  have K : Hid (Below w.heap.size w V) := by rw [← hV]; exact ((Below.refl _ w).alloc (Nat.le_refl _) _).alloc (by simp) _
  have B0 : Hid (V.heap[w.heap.size]? = some (.cells #[.slice A n cap, .int .i64 s] 36)) := by rw [← hV]; exact heap2a w _ _
  have R0 : Hid (V.heap[w.heap.size + 1]? = some (.cells #[.bool false, .bool false, .bool false, .bool false] 105)) := by rw [← hV]; exact heap2b w _ _
  have sV : V.heap.size = w.heap.size + 2 := by rw [← hV]; simp
  have HN := Lib.hid (h.below K.out)
  clear h
  have cA : Hid (∀ w' : World, Nums w' w'.heap.size A n zs → Calls Try.prog 57 #[.slice A n cap, .func (.func 58) #[] #[]] w' fun e w'' => e = .returned (.bool (zs.all isDrawB)) ∧ Below w'.heap.size w' w'') := fun w' h' => all_any A n cap zs w' h' hn
  have cU : Hid (∀ w' : World, Nums w' w'.heap.size A n zs → Calls Try.prog 59 #[.slice A n cap] w' fun e w'' => e = .returned (.bool (unlikeB zs)) ∧ Below w'.heap.size w' w'') := fun w' h' => AllUnlike_impl A n cap zs w' h' hn
  have cT : Hid (∀ w' : World, Calls Try.prog 60 #[.int .i64 s] w' fun e w'' => e = .returned (.bool (inB s 0 100000)) ∧ Below w'.heap.size w' w'') := fun w' => (isTime_any s w').mono fun _ _ ⟨he, hw⟩ => ⟨he, hw ▸ Below.refl _ _⟩
  generalize zs.all isDrawB = y1 at cA ⊢
  generalize unlikeB zs = y2 at cU ⊢
  generalize inB s 0 100000 = y3 at cT ⊢
  have hd : decide ((6 : Int) < (n : Int)) = decide (6 < n) := by
    by_cases h6 : 6 < n
    · rw [decide_eq_true h6, decide_eq_true (by omega)]
    · rw [decide_eq_false h6, decide_eq_false (by omega)]
  generalize decide (6 < n) = y0 at hd ⊢
  go_enter Try.func53, Try.ntmps53
  go_wp2
  clear hV
  have hmr : (plainEnv V [w.heap.size + 1]).mine (w.heap.size + 1) := Or.inr (by simp)
  refine wp_region_own (W := V) [w.heap.size + 1] (fun w' => w'.heap[w.heap.size + 1]? = some (.cells #[.bool false, .bool false, .bool false, .bool false] 105)) (stays_blk hmr _) R0.out [0, 0, 0, 0, 0, 0, 1, 0, 0, 0, 1, 0, 0, 0, 1, 0, 0, 3] (by kernel_rfl) (by kernel_rfl) (by kernel_rfl) ?_
  have fB : ∀ q : In (plainEnv V [w.heap.size + 1]), _ := fun q => (blk2 (q.block B0.out (by simp))).1
  have NN : Hid (∀ w' : World, (plainEnv V [w.heap.size + 1]).C w' → Nums w' w'.heap.size A n zs) := fun w' hC => (HN.out.below (KeptBut.below hC (B := w.heap.size) (by omega) (by simp))).mono (by have := KeptBut.size hC; omega)
  refine wpO_quiet 6 rfl (by kernel_rfl) ?_
  simp only [List.take, List.drop]
  repeat (go_big_quiet_step (fail))
  refine wpQuiet_nil ?_
  refine wpO_call (f := 57) (args := #[.slice A n cap, .func (.func 58) #[] #[]]) (.bool y1) rfl (fun w' => by simp [go_sem]) (fun w' hC _ => cA.out w' (NN.out w' hC)) ?_
  simp only [Act.put, List.setIfInBounds_toArray, List.set_cons_succ, List.set_cons_zero]
  refine wpO_quiet 3 rfl (by kernel_rfl) ?_
  simp only [List.take, List.drop]
  repeat (go_big_quiet_step (fail))
  refine wpQuiet_nil ?_
  refine wpO_call (f := 59) (args := #[.slice A n cap]) (.bool y2) rfl (fun w' => by simp [go_sem]) (fun w' hC _ => cU.out w' (NN.out w' hC)) ?_
  simp only [Act.put, List.setIfInBounds_toArray, List.set_cons_succ, List.set_cons_zero]
  refine wpO_quiet 3 rfl (by kernel_rfl) ?_
  simp only [List.take, List.drop]
  repeat (go_big_quiet_step (fail))
  refine wpQuiet_nil ?_
  refine wpO_call (f := 60) (args := #[.int .i64 s]) (.bool y3) rfl (fun w' => by simp [go_sem]) (fun w' _ _ => cT.out w') ?_
  simp only [Act.put, List.setIfInBounds_toArray, List.set_cons_succ, List.set_cons_zero]
  refine wpO_quiet 2 rfl (by kernel_rfl) ?_
  simp only [List.take, List.drop]
  repeat (go_big_quiet_step (fail))
  refine wpQuiet_nil ?_
  refine wpO_store (g := w.heap.size + 1) (t := 105) (old := #[.bool false, .bool false, .bool false, .bool false]) (fun _ => True) #[.bool y0, .bool (!y1), .bool (!y2), .bool (!y3)] rfl rfl rfl rfl hmr (by kernel_rfl) rfl rfl (fun w' h => ⟨trivial, h⟩) stays_true (away_true _) ?_
  simp only [Act.put]
  refine wpO_nil ?_
  rintro w9 b' ⟨_, hblk⟩
  have b := KeptBut.below b' (B := w.heap.size) (by omega) (by simp)
  go_wp2
  exact row_ret (r := w.heap.size + 1) (cs := #[.bool y0, .bool (!y1), .bool (!y2), .bool (!y3)]) rfl rfl hblk Try.underlying105 rfl (by kernel_rfl) rfl ⟨rfl, K.out.trans b⟩

end Go.Proofs.Ytakhjdodljhfmaa.Tx
namespace Go.Proofs.Ytakhjdodljhfmaa.Tx
open Go.RowKit

theorem memB_flaws {zs : List Int} {n : Nat} (hn : zs.length = n) (s : Int) : (!decide (6 < n) && (!!zs.all isDrawB && (!!unlikeB zs && !!inB s 0 100000))) = memB zs s := by
  unfold memB
  rw [hn]
  have : (!decide (6 < n)) = decide (n ≤ 6) := by
    by_cases h : n ≤ 6
    · rw [decide_eq_true h, decide_eq_false (by omega)]; rfl
    · rw [decide_eq_false h, decide_eq_true (by omega)]; rfl
  rw [this]
  simp only [Bool.not_not]
  cases zs.all isDrawB <;> cases decide (n ≤ 6) <;> rfl

theorem MemoryOk_impl (A : Option Addr) (n cap : Nat) (zs : List Int) (s : Int) (w : World) (h : Nums w w.heap.size A n zs) (hn : n ≤ 1048576) :
    Calls Try.prog 41 #[.agg #[.slice A n cap, .int .i64 s]] w fun e w' => e = .returned (.bool (memB zs s)) ∧ Below w.heap.size w w' := by
  have hf := memB_flaws h.1 s
  obtain ⟨V, hV⟩ : ∃ V, w.alloc (.cells #[.slice A n cap, .int .i64 s] 36) = V := ⟨_, rfl⟩
  have K : Hid (Below w.heap.size w V) := by rw [← hV]; exact (Below.refl _ w).alloc (Nat.le_refl _) _
  have B0 : Hid (V.heap[w.heap.size]? = some (.cells #[.slice A n cap, .int .i64 s] 36)) := by rw [← hV]; exact heap1 w _
  have cF := Lib.hid (flawsOf_any A n cap zs s V (h.on K.out) hn)
  clear h
  generalize decide (6 < n) = y0 at cF hf
  generalize (!zs.all isDrawB) = y1 at cF hf
  generalize (!unlikeB zs) = y2 at cF hf
  generalize (!inB s 0 100000) = y3 at cF hf
  have hq := eq_flaws y0 y1 y2 y3
  rw [hf] at hq
  clear hf
  generalize memB zs s = y at hq ⊢
  obtain ⟨⟨a0, a1⟩, _⟩ := blk2 B0.out
  go_enter Try.func41, Try.ntmps41
  go_wp2_with fail
  clear hV a0 a1
  refine cF.out.mono ?_
  rintro e w1 ⟨rfl, b⟩
  replace K := Lib.hid (K.out.trans (b.mono K.out.size))
  clear b
  go_wp2
  go_ret
  exact ⟨rfl, K.out⟩

theorem places_away {g x : Nat} (h : x ≠ g) (zs : List Int) : Away g (fun w => Places w x zs) := fun w w' hw hp => by
  obtain ⟨es, clock, hb, r⟩ := hp
  exact ⟨es, clock, (hw x (blk_in hb) h).trans hb, r⟩
/-- What recallOf hands back. -/
def RecOut (zs : List Int) (s : Int) (w : World) (e : Ending) (w' : World) : Prop :=
  ∃ b, e = .returned (.tuple #[.agg #[.map (some b), .int .i64 (sinceI zs s)], .bool (memB zs s)]) ∧ Places w' b (seenL zs s) ∧ w.heap.size ≤ b ∧ Below w.heap.size w w'

set_option maxRecDepth 100000 in
set_option maxHeartbeats 4000000 in
theorem recallOf_any (A : Option Addr) (n cap : Nat) (zs : List Int) (s : Int) (w : World) (h : Nums w w.heap.size A n zs) (hi : AllI64 zs) (hn : n ≤ 1048576) :
    Calls Try.prog 25 #[.agg #[.slice A n cap, .int .i64 s]] w (RecOut zs s w) := by
  obtain ⟨V, hV⟩ : ∃ V, (w.alloc (.cells #[.slice A n cap, .int .i64 s] 36)).alloc (.cells #[.map none, .int .i64 0] 54) = V := ⟨_, rfl⟩
  have K : Hid (Below w.heap.size w V) := by rw [← hV]; exact ((Below.refl _ w).alloc (Nat.le_refl _) _).alloc (by simp) _
  have B0 : Hid (V.heap[w.heap.size]? = some (.cells #[.slice A n cap, .int .i64 s] 36)) := by rw [← hV]; exact heap2a w _ _
  have R0 : Hid (V.heap[w.heap.size + 1]? = some (.cells #[.map none, .int .i64 0] 54)) := by rw [← hV]; exact heap2b w _ _
  have sV : V.heap.size = w.heap.size + 2 := by rw [← hV]; simp
  have HN := Lib.hid (h.on K.out)
  have HI := Lib.hid hi
  clear h hi
  go_enter Try.func25, Try.ntmps25
  go_wp2
  clear hV
  refine wp_region_own (W := V) [] (fun _ => True) stays_true trivial [0, 0, 1, 0, 0, 0, 2, 3] (by kernel_rfl) (by kernel_rfl) (by kernel_rfl) ?_
  have fB : ∀ q : In (plainEnv V []), _ := fun q => (blk2 (q.block B0.out (by simp))).1
  refine wpO_quiet 2 rfl (by kernel_rfl) ?_
  simp only [List.take, List.drop]
  repeat (go_big_quiet_step (fail))
  refine wpQuiet_nil ?_
  refine wpO_callx (f := 40) (args := #[.slice A n cap]) (α := Nat) (fun x => .map (some x)) (fun x => [x]) (fun x w' => Places w' x zs) rfl (fun w' => by simp [go_sem]) (fun x w1 w2 hw h b => h.on b) (fun G => ?_) (fun w' hw hF => ?_) (fun x hx => ?_)
  · obtain ⟨g, hg, hn⟩ := fresh_above V.heap.size G
    exact ⟨g, fun k hk => by simp at hk; subst hk; exact ⟨hg, hn⟩⟩
  · exact (placesOf_any A n cap zs w' (HN.out.on (kept_below hw)) HI.out hn).mono fun e w'' ⟨he, hp, hb⟩ => ⟨w'.heap.size, he, hp, hb, fun k hk => by simp at hk; subst hk; exact ⟨Nat.le_refl _, hp.lt⟩⟩
  have hxl : V.heap.size ≤ x := (hx x (by simp)).1
  simp only [Act.put, List.setIfInBounds_toArray, List.set_cons_succ, List.set_cons_zero]
  refine wpO_quiet 3 rfl (by kernel_rfl) ?_
  simp only [List.take, List.drop]
  repeat (go_big_quiet_step (fail))
  refine wpQuiet_nil ?_
  refine wpO_alloc (.cells #[.map none, .int .i64 0] 54) rfl (fun w' => by simp [go_sem]) fun g hg hgG => ?_
  have hgx : x ≠ g := fun e => hgG (by simp [e])
  have hgl : V.heap.size ≤ g := hg
  simp only [Act.put, List.setIfInBounds_toArray, List.set_cons_succ, List.set_cons_zero]
  refine wpO_store (g := g) (t := 54) (old := #[.map none, .int .i64 0]) (fun w' => Places w' x zs) #[.map (some x), .int .i64 s] rfl rfl rfl rfl (Or.inl hg) (by kernel_rfl) rfl rfl (fun w' h => ⟨h.1.2, h.2⟩) (fun w1 w2 hw h b => h.on b) (places_away hgx zs) ?_
  simp only [Act.put]
  refine wpO_nil ?_
  rintro w1 b' ⟨hp, hblk⟩
  have b := kept_below b'
  have P := Lib.hid hp
  have G := Lib.hid hblk
  have B := Lib.hid (blk_on b B0.out)
  have R := Lib.hid (blk_on b R0.out)
  have N := Lib.hid (HN.out.on b)
  replace K := Lib.hid (K.out.trans (b.mono K.out.size))
  have s1 := b.size
  clear b b' hp hblk B0 R0 HN fB hx hg hgG
  have cM := Lib.hid (MemoryOk_impl A n cap zs s w1 N.out hn)
  obtain ⟨⟨a0, a1⟩, _⟩ := blk2 B.out
  go_wp2_with fail
  clear a0 a1
  refine cM.out.mono ?_
  cases hM : memB zs s with
  | true =>
    have E1 := Lib.hid (sinceI_true hM)
    have E2 := Lib.hid (seenL_true hM)
    have E3 := Lib.hid hM
    rintro e w2 ⟨rfl, b⟩
    replace P := Lib.hid (P.out.on b)
    replace G := Lib.hid (blk_on b G.out)
    replace R := Lib.hid (blk_on b R.out)
    replace K := Lib.hid (K.out.trans (b.mono K.out.size))
    clear b hM cM
    obtain ⟨⟨g0, g1⟩, _⟩ := blk2 G.out
    obtain ⟨⟨r0, r1⟩, p0, p1⟩ := blk2 R.out
    go_wp2
    exact row_ret2 (r := w.heap.size + 1) (cs := #[.map (some x), .int .i64 s]) rfl rfl rfl (setAll_whole (vs := [.map (some x), .int .i64 s]) R.out rfl) Try.underlying54 rfl (by kernel_rfl) rfl
      ⟨x, by rw [E1.out, E3.out]; rfl, by rw [E2.out]; exact places_away (g := w.heap.size + 1) (by omega) zs _ _ (fun k _ hk => setAll_off hk [.map (some x), .int .i64 s] 0) P.out, by omega, setAll_below (g := w.heap.size + 1) (by omega) [.map (some x), .int .i64 s] 0 K.out⟩
  | false =>
    have E1 := Lib.hid (sinceI_false hM)
    have E2 := Lib.hid (seenL_false hM)
    have E3 := Lib.hid hM
    rintro e w2 ⟨rfl, b⟩
    replace P := Lib.hid (P.out.on b)
    replace G := Lib.hid (blk_on b G.out)
    replace R := Lib.hid (blk_on b R.out)
    replace K := Lib.hid (K.out.trans (b.mono K.out.size))
    have s2 := b.size
    clear b hM cM
    go_wp2_with fail
    refine (forget_any g x zs s w2 P.out G.out).mono ?_
    rintro e w3 ⟨rfl, hp, hg, hb⟩
    replace P := Lib.hid hp
    replace G := Lib.hid hg
    have b := hb (w.heap.size + 2) (by omega) (by omega)
    replace R := Lib.hid ((b.block _ (by omega)).trans R.out)
    replace K := Lib.hid (K.out.trans (b.mono (by omega)))
    clear hp hg hb b
    obtain ⟨⟨g0, g1⟩, _⟩ := blk2 G.out
    obtain ⟨⟨r0, r1⟩, p0, p1⟩ := blk2 R.out
    go_wp2
    exact row_ret2 (r := w.heap.size + 1) (cs := #[.map (some x), .int .i64 0]) rfl rfl rfl (setAll_whole (vs := [.map (some x), .int .i64 0]) R.out rfl) Try.underlying54 rfl (by kernel_rfl) rfl
      ⟨x, by rw [E1.out, E3.out]; rfl, by rw [E2.out]; exact places_away (g := w.heap.size + 1) (by omega) [] _ _ (fun k _ hk => setAll_off hk [.map (some x), .int .i64 0] 0) P.out, by omega, setAll_below (g := w.heap.size + 1) (by omega) [.map (some x), .int .i64 0] 0 K.out⟩

end Go.Proofs.Ytakhjdodljhfmaa.Tx
namespace Go.Proofs.Ytakhjdodljhfmaa.Tx
open Go.RowKit

/-- The right ones of a list of seats. -/
def okS (ss : List SeatL) : List SeatL := ss.filter fun q => seatOkB q.s q.l.length
theorem okS_le (ss : List SeatL) : (okS ss).length ≤ ss.length := List.length_filter_le _ _
theorem okS_step {ss : List SeatL} {k : Nat} {q : SeatL} (h : ss[k]? = some q) : (okS (ss.take (k + 1))).length = (okS (ss.take k)).length + if seatOkB q.s q.l.length = true then 1 else 0 := by
  rw [okS, okS, List.take_add_one, h, Option.toList_some, List.filter_append, List.length_append]
  cases e : seatOkB q.s q.l.length <;> simp [e]
theorem okS_all (ss : List SeatL) : (((okS ss).length : Int) == (ss.length : Int)) = seatsOkB ss := by
  rw [seatsOkB, Bool.eq_iff_iff, List.all_eq_true, beq_iff_eq]
  exact ⟨fun e => List.length_filter_eq_length_iff.1 (by rw [okS] at e; omega), fun e => by rw [okS, List.length_filter_eq_length_iff.2 e]⟩
theorem infoSeatP : ∃ (i : TypeInfo) (by' : Nat), Try.prog.info? 66 = some i ∧ i.zero = some (SeatV.val .zero none 0 0) ∧ i.size = 15 ∧ i.bytes = by' ∧ by' ≤ 400 := by
  obtain ⟨i, hi⟩ := Option.isSome_iff_exists.1 (show (Try.prog.info? 66).isSome = true by kernel_rfl)
  have h1 : (Try.prog.info? 66).map (fun i => (i.zero, i.size)) = some (some (SeatV.val .zero none 0 0), 15) := by kernel_rfl
  have h2 : ((Try.prog.info? 66).map (fun i => decide (i.bytes ≤ 400))) = some true := by kernel_rfl
  rw [hi] at h1 h2
  simp only [Option.map_some, Option.some.injEq, Prod.mk.injEq, decide_eq_true_eq] at h1 h2
  exact ⟨i, i.bytes, hi, h1.1, h1.2, rfl, h2⟩

theorem innOk_prog (zs : List Int) (t : Int) (ss : List SeatL) : innOkB zs t ss = (memB zs t && (decide (ss.length ≤ 8) && seatsOkB ss)) := by
  rw [innOkB]
  generalize seatsOkB ss = a
  generalize memB zs t = b
  generalize decide (ss.length ≤ 8) = c
  cases a <;> cases b <;> cases c <;> rfl
end Go.Proofs.Ytakhjdodljhfmaa.Tx
namespace Go.Proofs.Ytakhjdodljhfmaa.Tx
open Go.RowKit

theorem nums_at {w : World} {B n : Nat} {ad : Addr} {zs : List Int} {j : Nat} {u : Value} (h : Nums w B (some ad) n zs) (hl : zs.length = n) (hu : (zs.map (Value.int .i64))[j]? = some u) : w.cell? (ad.add j) = some u := by
  have hj : j < n := by
    have := (List.getElem?_eq_some_iff.1 hu).1
    simp [hl] at this; exact this
  obtain ⟨b, off, e, hb, hc⟩ := h.2 (by omega)
  cases e
  rw [Go.WideShapes.add_plain, hc j hj, ← hu, List.getElem?_map, List.getElem?_eq_getElem (by rw [hl]; exact hj)]
  rfl
theorem nums_app {w : World} {base n g : Nat} {zs : List Int} {v : Value} {c m : Nat} (h : w.ownsRow base 2 1 v (0 + n) ([] ++ zs.map (Value.int .i64))) (hf : v = .slice none 0 0 ↔ (Value.slice (some ⟨g, 0, none⟩) m c) = .slice none 0 0 ∧ n = 0) :
    ∃ gb cb, v = .slice (some ⟨gb, 0, none⟩) n cb ∧ OwnN w base zs (some ⟨gb, 0, none⟩) n cb := by
  rw [Nat.zero_add, List.nil_append] at h
  rcases h.2 with ⟨e, _⟩ | ⟨gb, cb, cur, e, _⟩
  · have := (hf.1 e).1
    cases this
  · subst e
    exact ⟨gb, cb, rfl, ⟨h⟩⟩

set_option maxRecDepth 100000 in
set_option maxHeartbeats 4000000 in
theorem numsCopied_any (A : Option Addr) (n cap : Nat) (zs : List Int) (w : World) (h : Nums w w.heap.size A n zs) (hz : A = none → cap = 0) (hn : n ≤ 1048576) :
    Calls Try.prog 27 #[.slice A n cap] w fun e w' => ∃ g cb, e = .returned (.slice (some ⟨g, 0, none⟩) n cb) ∧ OwnN w' w.heap.size zs (some ⟨g, 0, none⟩) n cb ∧ Below w.heap.size w w' := by
  obtain ⟨i0, hi, hz0, hz1, hz2⟩ := info_parts infoInt64
  have HL := Lib.hid h.1
  have HZ := Lib.hid hz
  obtain ⟨W0, hW0⟩ : ∃ W, w.alloc (.cells #[] 2) = W := ⟨_, rfl⟩
  have K0 : Hid (Below w.heap.size w W0) := by rw [← hW0]; exact (Below.refl _ w).alloc (Nat.le_refl _) _
  have O0 : Hid (OwnN W0 w.heap.size [] (some ⟨w.heap.size, 0, none⟩) 0 0) := by rw [← hW0]; exact ⟨World.ownsRow_made w #[] 0 (Nat.le_refl _) (Nat.zero_le _) rfl⟩
  have HN := Lib.hid (h.below K0.out)
  have hlt : w.heap.size < W0.heap.size := (O0.out.lt rfl).2
  clear h hz
  go_enter Try.func27, Try.ntmps27
  rcases A with _ | ad
  · have hn0 : n = 0 := by
      rcases Nat.eq_zero_or_pos n with h | h
      · exact h
      · obtain ⟨_, _, e, _⟩ := HN.out.2 h; cases e
    subst hn0
    obtain rfl : zs = [] := List.length_eq_zero_iff.1 HL.out
    obtain rfl : cap = 0 := HZ.out rfl
    have hap := run_append_owned_none W0 w.heap.size 58 58 2 i0 1 Try.underlying58 hi _ 0 [] O0.out.own
    go_wp2
    go_ret
    exact ⟨w.heap.size, 0, rfl, O0.out, K0.out⟩
  · go_wp2_with (at_builtin; refine wpList_append_own _ rfl _ _ 58 rfl w.heap.size 2 i0 (.int .i64 0) 1 8 Try.underlying58 hi hz0 hz1 hz2 rfl (by decide) _ 0 [] rfl O0.out.own ad n cap (zs.map (Value.int .i64)) rfl (by simp [HL.out]) (fun j u hu => nums_at HN.out HL.out hu) (by simp [Value.oneCell']) (by unfold maxLen; omega) (by omega) (by omega) ?_; intro v' w3 hown' hgrow hiff; have h9 := nums_app hown' hiff; obtain ⟨gb', cb', rfl, hM'⟩ := h9; have HM' := Lib.hid hM'; have HGR := Lib.hid hgrow; clear hown' hgrow hM' hiff)
    go_ret
    exact ⟨gb', cb', rfl, HM'.out, below_off K0.out HGR.out ⟨Nat.le_refl _, by omega⟩⟩

set_option maxRecDepth 100000 in
set_option maxHeartbeats 32000000 in
theorem innWith_any (M : Option Addr) (nm cm : Nat) (zs : List Int) (s : Int) (A : Option Addr) (n cap : Nat) (ss : List SeatL) (w : World) (h : InnO w w.heap.size M nm A n zs ss) (hMz : M = none → cm = 0) (hnm : nm ≤ 1048576) (hn : n ≤ 1048576) (hl : ∀ q ∈ ss, q.l.length ≤ 1048576) :
    Calls Try.prog 12 #[.agg #[.slice M nm cm, .int .i64 s], .slice A n cap] w fun e w' => ∃ i : InnH, e = .returned (i.val s) ∧ i.mn = nm ∧ i.n = n ∧ HeldI w' w.heap.size i zs ss ∧ Below w.heap.size w w' := by
  obtain ⟨i0, by0, hi, hz0, hz1, hz2, hby⟩ := infoSeatP
  have E := Lib.hid h
  have HL := Lib.hid hl
  have hlen := h.seats.len
  clear h hl
  obtain ⟨W0, hW0⟩ : ∃ W, (w.alloc (.cells #[.slice M nm cm, .int .i64 s] 36)).alloc (.cells #[.slice none 0 0, .int .i64 0, .slice none 0 0] 41) = W := ⟨_, rfl⟩
  have K0 : Hid (Below w.heap.size w W0) := by rw [← hW0]; exact ((Below.refl _ w).alloc (Nat.le_refl _) _).alloc (by simp; try omega) _
  have Q0 : Hid (W0.heap[w.heap.size]? = some (.cells #[.slice M nm cm, .int .i64 s] 36)) := by rw [← hW0]; exact heap2a w _ _
  have R0 : Hid (W0.heap[w.heap.size + 1]? = some (.cells #[.slice none 0 0, .int .i64 0, .slice none 0 0] 41)) := by rw [← hW0]; exact heap2b w _ _
  have zW0 : W0.heap.size = w.heap.size + 2 := by rw [← hW0]; simp
  go_enter Try.func12, Try.ntmps12
  go_wp2_with fail
  clear hW0
  have hW2 : w.heap.size + 2 ≤ W0.heap.size := by omega
  clear zW0
  refine wp_region_own (W := W0) [] (fun _ => True) stays_true trivial [0, 0, 1, 0, 0, 0, 0, 2, 3] (by kernel_rfl) (by kernel_rfl) (by kernel_rfl) ?_
  have fQ : ∀ q : In (plainEnv W0 []), _ := fun q => (blk2 (q.block Q0.out (by simp))).1
  refine wpO_quiet 2 rfl (by kernel_rfl) ?_
  simp only [List.take, List.drop]
  repeat (go_big_quiet_step (fail))
  refine wpQuiet_nil ?_
  refine wpO_callx (f := 27) (args := #[.slice M nm cm]) (α := Nat × Nat) (fun z => .slice (some ⟨z.1, 0, none⟩) nm z.2) (fun z => [z.1]) (fun z w' => OwnN w' W0.heap.size zs (some ⟨z.1, 0, none⟩) nm z.2) rfl (fun w' => by simp [go_sem]) (fun z w1 w2 hw h b => h.on b) (fun G => ?_) (fun w' hw hF => ?_) (fun z hz => ?_)
  · obtain ⟨g, hg, hn⟩ := fresh_above W0.heap.size G
    exact ⟨(g, 0), fun k hk => by simp at hk; subst hk; exact ⟨hg, hn⟩⟩
  · have kb := kept_below hw
    exact (numsCopied_any M nm cm zs w' ((E.out.mem.below (K0.out.trans (kb.mono K0.out.size))).mono (Nat.le_trans K0.out.size kb.size)) hMz hnm).mono fun e w'' ⟨g, cb, he, m, b1⟩ => ⟨(g, cb), he, m.mono kb.size, b1, fun k hk => by simp at hk; subst hk; exact m.lt rfl⟩
  obtain ⟨gm, cb⟩ := z
  dsimp only
  simp only [Act.put, List.setIfInBounds_toArray, List.set_cons_succ, List.set_cons_zero]
  refine wpO_quiet 4 rfl (by kernel_rfl) ?_
  simp only [List.take, List.drop]
  repeat (go_big_quiet_step (fail))
  refine wpQuiet_nil ?_
  refine wpO_alloc (.cells #[.slice none 0 0, .int .i64 0, .slice none 0 0] 41) rfl (fun w' => by simp [go_sem]) fun og mgO hng => ?_
  have hgO : W0.heap.size ≤ og := mgO
  have hneO : gm ≠ og := fun e => hng (by simp [e])
  simp only [Act.put, List.setIfInBounds_toArray, List.set_cons_succ, List.set_cons_zero]
  refine wpO_store (g := og) (t := 41) (old := #[.slice none 0 0, .int .i64 0, .slice none 0 0]) (fun w' => OwnN w' W0.heap.size zs (some ⟨gm, 0, none⟩) nm cb) #[.slice (some ⟨gm, 0, none⟩) nm cb, .int .i64 s, .slice none 0 0] rfl rfl rfl rfl (Env.own _ mgO) (by kernel_rfl) rfl rfl (fun w' h => ⟨h.1.2, h.2⟩) (fun w1 w2 hw h b => h.on b) (fun w1 w2 hw h => h.heap (fun k e => by have e1 : gm = k := Option.some.inj e; subst e1; exact hw gm (h.lt rfl).2 hneO)) ?_
  simp only [Act.put]
  refine wpO_nil ?_
  rintro w1 hb' ⟨hM, hO⟩
  have hb := kept_below hb'
  have lO : og < w1.heap.size := blk_in hO
  have lM : W0.heap.size ≤ gm ∧ gm < w1.heap.size := hM.lt rfl
  have RR := Lib.hid (blk_on hb R0.out)
  have KK := Lib.hid (K0.out.trans (hb.mono K0.out.size))
  have MM := Lib.hid hM
  have OO := Lib.hid hO
  clear hb hb' hM hO Q0 R0 fQ hz hng mgO
  have lR : w.heap.size + 1 < w1.heap.size := blk_in RR.out
  go_wp2
  go_loopw [17] (fun i wr => ∃ (k : Nat) (A' : Option Addr) (c' : Nat) (hs : List SeatH), k ≤ n ∧ i = .int .i64 k ∧ Hid (wr.heap[og]? = some (.cells #[.slice (some ⟨gm, 0, none⟩) nm cb, .int .i64 s, .slice A' k c'] 41)) ∧ Hid (RowS wr w1.heap.size A' k c' hs (ss.take k)) ∧ Hid (GrownS w1 wr (fun t => t = og)) ∧ w1.heap.size ≤ wr.heap.size) (fun i _ => n - (intOf i).toNat)
  case atStart => exact ⟨0, none, 0, [], Nat.zero_le _, rfl, OO.out, by rw [List.take_zero]; exact rowS_nil _ _, GrownS.refl _ _, Nat.le_refl _⟩
  case round =>
    obtain ⟨k, A', c', hs, hk, rfl, hO, hR, hB, hzr⟩ := hrel
    have KW : Below w.heap.size w wr := hB.out.below KK.out KK.out.size (fun j e => by have e1 : j = og := e; omega)
    by_cases hlt : k < n
    · obtain ⟨b, off, ⟨⟨st, sh, sd, sp, ⟨⟨eu, es, eh, ea⟩, en⟩, ⟨⟨fu, fs, fh, fa⟩, fn⟩⟩, xA, xn, xc⟩, q, rfl, hb, hq, e1, g1, E1, xz⟩ := E.out.seats.at hlt
      obtain ⟨c0, c1, c2, c3, c4, c5, c6, c7, c8, c9, c10, c11, c12, c13, c14⟩ := seat_at (g1.heap (KW.block b hb))
      dsimp only at c0 c1 c2 c3 c4 c5 c6 c7 c8 c9 c10 c11 c12 c13 c14
      have hql := HL.out q (List.mem_of_getElem? hq)
      have hxl : q.l.length = xn := E1.1
      have e2 : ⟨st, sh, sd, sp, ⟨⟨eu, es, eh, ea⟩, en⟩, ⟨⟨fu, fs, fh, fa⟩, fn⟩⟩ = q.s := e1
      have hk0 : (0 : Int) ≤ (k : Int) := by omega
      have hkn : (k : Int) < (n : Int) := by omega
      have HE := Lib.hid E1
      have HQ2 := Lib.hid hq
      have HX := Lib.hid e2
      clear e1 e2 g1 E1 hq
      obtain ⟨W1, hW1⟩ : ∃ V, wr.alloc (.cells #[.int .i64 st, .int .i64 sh, .int .i64 sd, .int .i64 sp, .int .i64 eu, .int .i64 es, .int .i64 eh, .int .i64 ea, .int .i64 en, .int .i64 fu, .int .i64 fs, .int .i64 fh, .int .i64 fa, .int .i64 fn, .slice xA xn xc] 66) = V := ⟨_, rfl⟩
      have b1 : Below wr.heap.size wr W1 := by rw [← hW1]; exact (Below.refl _ wr).alloc (Nat.le_refl _) _
      have X1 : Hid (W1.heap[wr.heap.size]? = some (.cells #[.int .i64 st, .int .i64 sh, .int .i64 sd, .int .i64 sp, .int .i64 eu, .int .i64 es, .int .i64 eh, .int .i64 ea, .int .i64 en, .int .i64 fu, .int .i64 fs, .int .i64 fh, .int .i64 fa, .int .i64 fn, .slice xA xn xc] 66)) := by rw [← hW1]; exact heap1 wr _
      have hO1 := Lib.hid (blk_on b1 hO.out)
      have hR1 := Lib.hid (hR.out.on b1)
      have hB1 : Hid (GrownS w1 W1 (fun t => t = og)) := hB.out.trans (GrownS.low b1)
      have KW1 := Lib.hid (KW.trans (b1.mono KW.size))
      have s1 : wr.heap.size < W1.heap.size := blk_in X1.out
      have hzr1 : w1.heap.size ≤ W1.heap.size := by omega
      have hfoot : ∀ t, blkA A' = some t → w1.heap.size ≤ t ∧ t < wr.heap.size := fun t e => hR.out.foot (.inl e)
      have hbA : ∀ t, t < w1.heap.size → blkA A' ≠ some t := fun t ht e => by have := (hfoot t e).1; omega
      clear hO hR hB KW b1
      go_wp2
      clear hW1 c0 c1 c2 c3 c4 c5 c6 c7 c8 c9 c10 c11 c12 c13 c14
      have hS0 : Stays (plainEnv W1 (og :: (blkA A').toList)) (fun w' => w'.heap[og]? = some (.cells #[.slice (some ⟨gm, 0, none⟩) nm cb, .int .i64 s, .slice A' k c'] 41) ∧ w'.ownsRow w1.heap.size 66 15 (.slice A' k c') k (hs.flatMap Cells.cells)) := stays_and (stays_blk (E := plainEnv W1 (og :: (blkA A').toList)) (.inr (by simp)) _) (fun w1 w2 hc h b => own_heap h fun t e => b.block t (h.lt t (by rw [← e]; cases A' <;> rfl)).2)
      refine wp_region_own (W := W1) (og :: (blkA A').toList) (fun w' => w'.heap[og]? = some (.cells #[.slice (some ⟨gm, 0, none⟩) nm cb, .int .i64 s, .slice A' k c'] 41) ∧ w'.ownsRow w1.heap.size 66 15 (.slice A' k c') k (hs.flatMap Cells.cells)) hS0 ⟨hO1.out, hR1.out.own⟩ [0, 5, 0, 1, 2, 3, 0, 3] (by kernel_rfl) (by kernel_rfl) (by kernel_rfl) ?_
      have rX : Hid (∀ x : In (plainEnv W1 (og :: (blkA A').toList)), x.w.heap[wr.heap.size]? = some (.cells #[.int .i64 st, .int .i64 sh, .int .i64 sd, .int .i64 sp, .int .i64 eu, .int .i64 es, .int .i64 eh, .int .i64 ea, .int .i64 en, .int .i64 fu, .int .i64 fs, .int .i64 fh, .int .i64 fa, .int .i64 fn, .slice xA xn xc] 66)) := fun x => x.block X1.out (by simp; exact ⟨by omega, fun e => by have := (hfoot _ e).2; omega⟩)
      refine wpO_quiet 1 rfl (by kernel_rfl) ?_
      simp only [List.take, List.drop]
      repeat (go_big_quiet_step (fail))
      refine wpQuiet_nil ?_
      refine wpO_cell5 (g := og) (i := 2) (cs := #[.slice (some ⟨gm, 0, none⟩) nm cb, .int .i64 s, .slice A' k c']) (.slice A' k c') rfl hS0 (fun w' hw hF => hF.1) rfl (fun w' h => by simp [go_sem, h]) ?_
      simp only [Act.put, List.setIfInBounds_toArray, List.set_cons_succ, List.set_cons_zero]
      refine wpO_load_row rfl 66 _ rfl (wr.heap.size) rfl 66 _ (0, 0) _ rX.out Try.underlying66 rfl (by kernel_rfl) ?_
      simp only [Act.put, List.setIfInBounds_toArray, List.set_cons_succ, List.set_cons_zero]
      refine wpO_callx (f := 28) (args := #[.agg #[.int .i64 st, .int .i64 sh, .int .i64 sd, .int .i64 sp, .int .i64 eu, .int .i64 es, .int .i64 eh, .int .i64 ea, .int .i64 en, .int .i64 fu, .int .i64 fs, .int .i64 fh, .int .i64 fa, .int .i64 fn, .slice xA xn xc]]) (α := Nat × Nat) (fun z => .agg #[.int .i64 st, .int .i64 sh, .int .i64 sd, .int .i64 sp, .int .i64 eu, .int .i64 es, .int .i64 eh, .int .i64 ea, .int .i64 en, .int .i64 fu, .int .i64 fs, .int .i64 fh, .int .i64 fa, .int .i64 fn, .slice (some ⟨z.1, 0, none⟩) xn z.2]) (fun z => [z.1]) (fun z w' => MadeE w' W1.heap.size 94 q.l z.1 z.2) rfl (fun w' => by simp [go_sem]) (fun z w1 w2 hw h b => h.below b) (fun G => ?_) (fun w' hw hF => ?_) (fun z hz => ?_)
      · obtain ⟨g, hg, hn⟩ := fresh_above W1.heap.size G
        exact ⟨(g, 0), fun k hk => by simp at hk; subst hk; exact ⟨hg, hn⟩⟩
      · have hz' := hw.size
        have KW' : Below w.heap.size w w' := KW1.out.trans ⟨hw.os, hw.tape, hw.output, hw.size, fun t ht => hw.block t (by have := KW1.out.size; omega) (by simp; exact ⟨by omega, hbA t (by have := KK.out.size; omega)⟩)⟩
        exact (copied_any ⟨st, sh, sd, sp, ⟨⟨eu, es, eh, ea⟩, en⟩, ⟨⟨fu, fs, fh, fa⟩, fn⟩⟩ xA xn xc q.l w' ((HE.out.below KW').mono KW'.size) xz (by omega)).mono fun e w'' ⟨g, cb, he, m, b1⟩ => ⟨(g, cb), he, m.mono hz', b1, fun k hk => by simp at hk; subst hk; exact m.base⟩
      obtain ⟨lg, lc⟩ := z
      have hlg : W1.heap.size ≤ lg := (hz lg (by simp)).1
      dsimp only
      simp only [Act.put, List.setIfInBounds_toArray, List.set_cons_succ, List.set_cons_zero]
      refine wpO_row (.cells #[.int .i64 st, .int .i64 sh, .int .i64 sd, .int .i64 sp, .int .i64 eu, .int .i64 es, .int .i64 eh, .int .i64 ea, .int .i64 en, .int .i64 fu, .int .i64 fs, .int .i64 fh, .int .i64 fa, .int .i64 fn, .slice (some ⟨lg, 0, none⟩) xn lc] 66) 1 rfl (fun w' => by simp [go_sem]) fun ge mge hge => ?_
      simp only [Act.put, List.setIfInBounds_toArray, List.set_cons_succ, List.set_cons_zero]
      refine wpO_appendA (fun w' => w'.heap[og]? = some (.cells #[.slice (some ⟨gm, 0, none⟩) nm cb, .int .i64 s, .slice A' k c'] 41) ∧ MadeE w' W1.heap.size 94 q.l lg lc) _ _ 39 rfl rfl w1.heap.size 66 i0 (SeatV.val .zero none 0 0) 15 by0 Try.underlying39 hi hz0 hz1 hz2 rfl (by decide) k (hs.flatMap Cells.cells) A' c' rfl (fun t e => .inr (by simp; exact .inr e)) ⟨ge, 0, none⟩ 1 1 ([(SeatH.mk ⟨st, sh, sd, sp, ⟨⟨eu, es, eh, ea⟩, en⟩, ⟨⟨fu, fs, fh, fa⟩, fn⟩⟩ (some ⟨lg, 0, none⟩) xn lc)].flatMap Cells.cells) rfl rfl flat_one (by omega) (by unfold maxLen; omega) (Nat.le_trans (Nat.mul_le_mul (by omega : k + 1 ≤ 1048577) hby) (by decide)) hzr1 (fun w' hw hF => ⟨⟨hF.1.1.1, hF.1.2⟩, hF.1.1.2, fun j u hu => by rw [Go.WideShapes.add_plain, Nat.zero_add, blk_cell hF.2, ← Array.getElem?_toList]; rw [List.flatMap_cons, List.flatMap_nil, List.append_nil] at hu; exact hu⟩) (stays_and (stays_blk (E := plainEnv W1 (og :: (blkA A').toList)) (.inr (by simp)) _) (fun w1 w2 hw h b => h.below b)) (fun w1 w2 hk h => ⟨(hk og (blk_in h.1) (hbA og lO)).trans h.1, h.2.heap (hk lg h.2.base.2 (fun e => by have := (hfoot lg e).2; omega))⟩) (fun gb' cb' hgb' hgm => ?_)
      simp only [Act.put, List.setIfInBounds_toArray, List.set_cons_succ, List.set_cons_zero]
      refine wpO_quiet 1 rfl (by kernel_rfl) ?_
      simp only [List.take, List.drop]
      repeat (go_big_quiet_step (fail))
      refine wpQuiet_nil ?_
      refine wpO_put (g := og) (i := 2) (t := 41) (cs := #[.slice (some ⟨gm, 0, none⟩) nm cb, .int .i64 s, .slice A' k c']) (fun w' => MadeE w' W1.heap.size 94 q.l lg lc ∧ w'.ownsRow w1.heap.size 66 15 (.slice (some ⟨gb', 0, none⟩) (k + 1) cb') (k + 1) (hs.flatMap Cells.cells ++ [(SeatH.mk ⟨st, sh, sd, sp, ⟨⟨eu, es, eh, ea⟩, en⟩, ⟨⟨fu, fs, fh, fa⟩, fn⟩⟩ (some ⟨lg, 0, none⟩) xn lc)].flatMap Cells.cells)) (.slice (some ⟨gb', 0, none⟩) (k + 1) cb') rfl (.inr (by simp)) (fun w' h => by have h1 := blk_cell h 2; have h2 := blk_frozen h 2; simp [go_sem, h1, h2]) (fun w' h => ⟨⟨h.1.2, h.2⟩, h.1.1⟩) (stays_and (fun w1 w2 hw h b => h.below b) (fun w1 w2 hc h b => own_heap h fun t e => b.block t (h.lt t e).2)) (fun w1 w2 hw h => ⟨h.1.heap (hw lg h.1.base.2 (by omega)), own_heap h.2 fun t e => hw t (h.2.lt t e).2 (by have e1 : gb' = t := Option.some.inj e; omega)⟩) ?_
      simp only [Act.put]
      refine wpO_nil ?_
      rintro w6 b6 ⟨⟨h1, h2⟩, h3⟩
      have HO := Lib.hid h3
      have hs6 := b6.size
      have HN : Hid (RowS w6 w1.heap.size (some ⟨gb', 0, none⟩) (k + 1) cb' (hs ++ [SeatH.mk ⟨st, sh, sd, sp, ⟨⟨eu, es, eh, ea⟩, en⟩, ⟨⟨fu, fs, fh, fa⟩, fn⟩⟩ (some ⟨lg, 0, none⟩) xn lc]) (ss.take (k + 1))) := by
        have ht : ss.take (k + 1) = ss.take k ++ [q] := by rw [List.take_add_one, HQ2.out]; rfl
        show RowS _ _ _ _ _ _ _
        rw [ht]
        refine hR1.out.next _ q HX.out (.inr ⟨lg, rfl, hxl.symm, h1⟩) hzr1 (fun j y hy t ht => b6.block t (hR1.out.foot (.inr ⟨j, y, hy, ht⟩)).2 ?_) (by rw [List.flatMap_append]; exact h2)
        have h5 := (hR1.out.foot (.inr ⟨j, y, hy, ht⟩)).1
        have h6 := hR1.out.apart.front j y hy t ht
        simp
        exact ⟨by omega, h6⟩
      have HB6 : Hid (GrownS w1 w6 (fun t => t = og)) := ⟨b6.os.trans hB1.out.os, b6.tape.trans hB1.out.tape, b6.output.trans hB1.out.output, Nat.le_trans hB1.out.size b6.size, fun t ht hne => (b6.block t (Nat.lt_of_lt_of_le ht hB1.out.size) (by simp; exact ⟨hne, hbA t ht⟩)).trans (hB1.out.block t ht hne)⟩
      clear h1 h2 h3 b6 HE HX HQ2 hS0 rX hO1 hR1 hB1 KW1 X1 hfoot hbA
      go_wp2
      go_roundw
      case rel => exact ⟨k + 1, some ⟨gb', 0, none⟩, cb', _, by omega, by go_num, HO.out, HN.out, HB6.out, by omega⟩
      case measure => simp [intOf]; omega
    · obtain rfl : k = n := by omega
      have hlt' : ¬ (k : Int) < (k : Int) := by omega
      have R1 := Lib.hid ((hB.out.block _ lR (by omega)).trans RR.out)
      have KW2 := Lib.hid KW
      have HI : Hid (HeldI wr W0.heap.size ⟨some ⟨gm, 0, none⟩, nm, cb, A', k, c', hs⟩ zs ss) := ⟨MM.out.heap (fun t e => hB.out.block t (by have e1 : gm = t := Option.some.inj e; omega) (by have e1 : gm = t := Option.some.inj e; omega)), by
        have h9 := hR.out.held.mono (base' := W0.heap.size) (by omega)
        rw [List.take_of_length_le (by rw [hlen]; exact Nat.le_refl _)] at h9
        exact h9, fun t e1 e2 => by
        have e3 : gm = t := Option.some.inj e1
        have := (hR.out.foot e2).1
        omega⟩
      have hO2 := hO
      clear hR hO hB KW
      go_wp2_with (first | (refine wpList_load_row rfl 41 _ rfl og rfl 41 _ (0, 0) _ hO2.out Try.underlying41 rfl (by kernel_rfl) ?_) | (refine wpList_store_row rfl 41 _ _ rfl (w.heap.size + 1) #[.slice (some ⟨gm, 0, none⟩) nm cb, .int .i64 s, .slice A' k c'] rfl rfl 41 _ R1.out (by kernel_rfl) rfl (by simp [Value.oneCell']) ?_))
      exact row_ret (r := w.heap.size + 1) (cs := #[.slice (some ⟨gm, 0, none⟩) nm cb, .int .i64 s, .slice A' k c']) rfl rfl (setRow_heap _ _ _ _ _ _ R1.out) Try.underlying41 rfl (by kernel_rfl) rfl ⟨⟨some ⟨gm, 0, none⟩, nm, cb, A', k, c', hs⟩, rfl, rfl, rfl, (HI.out.heap (fun t e => setRow_other _ _ _ _ (by have := (HI.out.foot e).1; omega)) (Nat.le_of_eq (size_setRow _ _ _).symm)).mono (by omega), below_setRow KW2.out (by omega) _⟩

end Go.Proofs.Ytakhjdodljhfmaa.Tx
namespace Go.Proofs.Ytakhjdodljhfmaa.Tx
open Go.RowKit

set_option maxRecDepth 100000 in
set_option maxHeartbeats 2000000 in
theorem NewMemory_impl (now : Int) (w : World) : Calls Try.prog 11 #[.int .i64 now] w (MemOut [] (sinceI [] now) (memB [] now) w) := by
  obtain ⟨V, hV⟩ : ∃ V, w.alloc (.cells #[.slice none 0 0, .int .i64 0] 36) = V := ⟨_, rfl⟩
  have K : Hid (Below w.heap.size w V) := by rw [← hV]; exact (Below.refl _ w).alloc (Nat.le_refl _) _
  have R : Hid (V.heap[w.heap.size]? = some (.cells #[.slice none 0 0, .int .i64 0] 36)) := by rw [← hV]; exact heap1 w _
  have sV : V.heap.size = w.heap.size + 1 := by rw [← hV]; simp
  have cR : Hid (Calls Try.prog 25 #[.agg #[.slice none 0 0, .int .i64 now]] V fun e w' => ∃ b, e = .returned (.tuple #[.agg #[.map (some b), .int .i64 (sinceI [] now)], .bool (memB [] now)]) ∧ Places w' b [] ∧ V.heap.size ≤ b ∧ Below V.heap.size V w') := by
    have h1 := recallOf_any none 0 0 [] now V (nums_nil _ _ _) allI64_nil (by omega)
    have h2 : seenL [] now = [] := by unfold seenL; split <;> rfl
    unfold RecOut at h1
    rw [h2] at h1
    exact h1
  generalize sinceI [] now = s at cR ⊢
  generalize memB [] now = y at cR ⊢
  go_enter Try.func11, Try.ntmps11
  go_wp2_with fail
  clear hV
  refine cR.out.mono ?_
  rintro e w1 ⟨x, rfl, hp, hx, b⟩
  have P := Lib.hid hp
  replace R := Lib.hid (blk_on b R.out)
  replace K := Lib.hid (K.out.trans (b.mono K.out.size))
  have s1 := b.size
  clear hp b cR
  obtain ⟨W2, hW2⟩ : ∃ W, w1.alloc (.cells #[.map (some x), .int .i64 s] 54) = W := ⟨_, rfl⟩
  have b : Below w1.heap.size w1 W2 := hW2 ▸ (Below.refl _ w1).alloc (Nat.le_refl _) _
  have G : Hid (W2.heap[w1.heap.size]? = some (.cells #[.map (some x), .int .i64 s] 54)) := by rw [← hW2]; exact heap1 w1 _
  have s2 := b.size
  replace P := Lib.hid (P.out.on b)
  replace R := Lib.hid (blk_on b R.out)
  replace K := Lib.hid (K.out.trans (b.mono K.out.size))
  clear b
  obtain ⟨⟨g0, g1⟩, _⟩ := blk2 G.out
  go_wp2_with fail
  clear hW2 g0 g1
  refine (told_any x [] List.nodup_nil (by simp) s W2 P.out).mono ?_
  rintro e w3 ⟨rfl, hrow, b⟩
  replace R := Lib.hid (blk_on b R.out)
  replace K := Lib.hid (K.out.trans (b.mono K.out.size))
  have O := Lib.hid (ownN_row (base := w.heap.size) hrow rfl (by omega) (by simp))
  have s3 := b.size
  clear b hrow
  obtain ⟨⟨r0, r1⟩, p0, p1⟩ := blk2 R.out
  go_wp2
  exact row_ret2 (r := w.heap.size) (cs := #[.slice (some ⟨W2.heap.size + 2, 0, none⟩) 0 0, .int .i64 s]) rfl rfl rfl (setAll_whole (vs := [.slice (some ⟨W2.heap.size + 2, 0, none⟩) 0 0, .int .i64 s]) R.out rfl) Try.underlying36 rfl (by kernel_rfl) rfl
    ⟨some ⟨W2.heap.size + 2, 0, none⟩, 0, 0, rfl, O.out.heap (fun k e => by obtain rfl : W2.heap.size + 2 = k := Option.some.inj e; exact setAll_off (g := w.heap.size) (by omega) [.slice (some ⟨W2.heap.size + 2, 0, none⟩) 0 0, .int .i64 s] 0), setAll_below (g := w.heap.size) (by omega) [.slice (some ⟨W2.heap.size + 2, 0, none⟩) 0 0, .int .i64 s] 0 K.out⟩

-- MADE by gen/impl8d.py from here on

/-- What recallOf makes, where the Memory is right, and where it is not. -/
theorem recall_right {A : Option Addr} {n cap : Nat} {zs : List Int} {s : Int} {w : World} (h : Nums w w.heap.size A n zs) (hi : AllI64 zs) (hn : n ≤ 1048576) (hM : memB zs s = true) :
    Calls Try.prog 25 #[.agg #[.slice A n cap, .int .i64 s]] w fun e w' => ∃ b, e = .returned (.tuple #[.agg #[.map (some b), .int .i64 s], .bool true]) ∧ Places w' b zs ∧ w.heap.size ≤ b ∧ Below w.heap.size w w' := by
  have h1 := recallOf_any A n cap zs s w h hi hn
  unfold RecOut at h1
  rwa [sinceI_true hM, seenL_true hM, hM] at h1
theorem recall_wrong {A : Option Addr} {n cap : Nat} {zs : List Int} {s z : Int} {w : World} (h : Nums w w.heap.size A n zs) (hi : AllI64 zs) (hn : n ≤ 1048576) (hM : memB zs s = false) (hz : z = 0) :
    Calls Try.prog 25 #[.agg #[.slice A n cap, .int .i64 s]] w fun e w' => ∃ b, e = .returned (.tuple #[.agg #[.map (some b), .int .i64 z], .bool false]) ∧ Places w' b [] ∧ w.heap.size ≤ b ∧ Below w.heap.size w w' := by
  have h1 := recallOf_any A n cap zs s w h hi hn
  unfold RecOut at h1
  rwa [sinceI_false hM, seenL_false hM, hM, ← hz] at h1
theorem places_ne {w : World} {b k : Nat} {zs : List Int} {cs : Array Value} {t : TypeId} {f : Nat × Nat} (h : Places w b zs) (hb : w.heap[k]? = some (.cells cs t f)) : k ≠ b := fun e => by
  subst e
  obtain ⟨es, clock, h1, _⟩ := h
  rw [hb] at h1; cases h1

end Go.Proofs.Ytakhjdodljhfmaa.Tx
namespace Go.Proofs.Ytakhjdodljhfmaa.Tx
open Go.RowKit

theorem isHouses_any (h : Int) (w : World) : Calls Try.prog 10 #[.int .i64 h] w fun e w' => e = .returned (.bool (decide (1 ≤ h) && decide (h ≤ 3))) ∧ w = w' := by
  go_enter Try.func10, Try.ntmps10
  by_cases h1 : 1 ≤ h
  · have e1 : decide (1 ≤ h) = true := decide_eq_true h1
    rw [e1, Bool.true_and]
    go_wp2
    go_ret
    exact ⟨rfl, rfl⟩
  · have e1 : decide (1 ≤ h) = false := decide_eq_false h1
    rw [e1, Bool.false_and]
    go_wp2
    go_ret
    exact ⟨rfl, rfl⟩
theorem own_ltA {w : World} {base sz n c t : Nat} {T : TypeId} {A : Option Addr} {vs : List Value} (h : w.ownsRow base T sz (.slice A n c) n vs) (e : blkA A = some t) : base ≤ t ∧ t < w.heap.size := h.lt t (by rw [← e]; cases A <;> rfl)
theorem sinceZ : sinceI [] 0 = 0 := by decide

set_option maxRecDepth 100000 in
set_option maxHeartbeats 32000000 in
theorem NewWorld_impl (h : Int) (w : World) : Calls Try.prog 5 #[.int .i64 h] w (WorldOut h w) := by
  obtain ⟨i0, by0, hi, hz0, hz1, hz2, hby⟩ := infoInnE
  obtain ⟨W0, hW0⟩ : ∃ W, w.alloc (.cells #[.int .i64 0, .int .i64 0, .int .i64 0, .slice none 0 0, .slice none 0 0, .slice none 0 0, .slice none 0 0] 27) = W := ⟨_, rfl⟩
  have K0 : Hid (Below w.heap.size w W0) := by rw [← hW0]; exact (Below.refl _ w).alloc (Nat.le_refl _) _
  have R0 : Hid (W0.heap[w.heap.size]? = some (.cells #[.int .i64 0, .int .i64 0, .int .i64 0, .slice none 0 0, .slice none 0 0, .slice none 0 0, .slice none 0 0] 27)) := by rw [← hW0]; exact heap1 w _
  have zW0 : w.heap.size < W0.heap.size := by rw [← hW0]; simp
  have ci := isHouses_any h W0
  have HB : Hid (nwB h = (decide (1 ≤ h) && decide (h ≤ 3))) := rfl
  obtain ⟨b, hb'⟩ : ∃ b, (decide (1 ≤ h) && decide (h ≤ 3)) = b := ⟨_, rfl⟩
  rw [hb'] at ci
  rw [hb'] at HB
  go_enter Try.func5, Try.ntmps5
  go_wp2_with fail
  clear hW0
  refine ci.mono ?_
  rintro e w1 ⟨rfl, rfl⟩
  clear ci
  cases b with
  | false =>
    go_wp2_with (refine wpList_store_row rfl 27 _ _ rfl (w.heap.size) #[.int .i64 0, .int .i64 0, .int .i64 0, .slice none 0 0, .slice none 0 0, .slice none 0 0, .slice none 0 0] rfl rfl 27 _ R0.out (by kernel_rfl) rfl (by simp [Value.oneCell']) ?_)
    have e1 : nwS h = 0 := by rw [nwS, HB.out]; rfl
    have e2 : nwN h = 0 := by rw [nwN, HB.out]; rfl
    exact row_ret2 (r := w.heap.size) (cs := #[.int .i64 0, .int .i64 0, .int .i64 0, .slice none 0 0, .slice none 0 0, .slice none 0 0, .slice none 0 0]) rfl rfl rfl (setRow_heap _ _ _ _ _ _ R0.out) Try.underlying27 rfl (by kernel_rfl) rfl ⟨none, none, none, none, 0, 0, 0, 0, [], by rw [e1, e2, HB.out]; rfl, by rw [e2]; exact .inl ⟨rfl, rfl, rfl, rfl⟩, (fun z hz => by cases hz), below_setRow K0.out (by omega) _⟩
  | true =>
    rw [Bool.and_eq_true, decide_eq_true_iff, decide_eq_true_iff] at hb'
    obtain ⟨n, rfl⟩ := Int.eq_ofNat_of_zero_le (show 0 ≤ h by omega)
    have e1 : nwS (n : Int) = 1 := by rw [nwS, HB.out]; rfl
    have e2 : nwN (n : Int) = n := by rw [nwN, HB.out]; simp
    have hn3 : n ≤ 3 := by omega
    have E1 := Lib.hid e1
    have E2 := Lib.hid e2
    clear e1 e2 hb'
    obtain ⟨V1, hV1⟩ : ∃ V, W0.alloc (.cells #[.int .i64 0, .int .i64 0, .int .i64 0, .slice none 0 0, .slice none 0 0, .slice none 0 0, .slice none 0 0] 27) = V := ⟨_, rfl⟩
    have Q1 : Hid (V1.heap[W0.heap.size]? = some (.cells #[.int .i64 0, .int .i64 0, .int .i64 0, .slice none 0 0, .slice none 0 0, .slice none 0 0, .slice none 0 0] 27)) := by rw [← hV1]; exact heap1 W0 _
    have R1 : Hid (V1.heap[w.heap.size]? = some (.cells #[.int .i64 0, .int .i64 0, .int .i64 0, .slice none 0 0, .slice none 0 0, .slice none 0 0, .slice none 0 0] 27)) := by rw [← hV1]; exact alloc_blk R0.out
    have K1 : Hid (Below w.heap.size w V1) := by rw [← hV1]; exact K0.out.alloc (by omega) _
    have zV1 : V1.heap.size = W0.heap.size + 1 := by rw [← hV1]; simp
    obtain ⟨og, hog⟩ : ∃ g, W0.heap.size = g := ⟨_, rfl⟩
    have Q2 : Hid ((V1.setRow W0.heap.size #[.int .i64 1, .int .i64 0, .int .i64 1, .slice none 0 0, .slice none 0 0, .slice none 0 0, .slice none 0 0]).heap[og]? = some (.cells #[.int .i64 1, .int .i64 0, .int .i64 1, .slice none 0 0, .slice none 0 0, .slice none 0 0, .slice none 0 0] 27)) := by rw [← hog]; exact setRow_heap _ _ _ _ _ _ Q1.out
    have R2 : Hid ((V1.setRow W0.heap.size #[.int .i64 1, .int .i64 0, .int .i64 1, .slice none 0 0, .slice none 0 0, .slice none 0 0, .slice none 0 0]).heap[w.heap.size]? = some (.cells #[.int .i64 0, .int .i64 0, .int .i64 0, .slice none 0 0, .slice none 0 0, .slice none 0 0, .slice none 0 0] 27)) := (setRow_other _ _ _ _ (by omega)).trans R1.out
    have K2 : Hid (Below w.heap.size w (V1.setRow W0.heap.size #[.int .i64 1, .int .i64 0, .int .i64 1, .slice none 0 0, .slice none 0 0, .slice none 0 0, .slice none 0 0])) := below_setRow K1.out (by omega) _
    have z2 := size_setRow V1 W0.heap.size #[.int .i64 1, .int .i64 0, .int .i64 1, .slice none 0 0, .slice none 0 0, .slice none 0 0, .slice none 0 0]
    have hgw : w.heap.size < og := by omega
    have HOG := Lib.hid hog
    clear R0 K0 R1 K1 hog
    go_wp2_with (refine wpList_store_row rfl 27 _ _ rfl (W0.heap.size) #[.int .i64 1, .int .i64 0, .int .i64 1, .slice none 0 0, .slice none 0 0, .slice none 0 0, .slice none 0 0] rfl rfl 27 _ Q1.out (by kernel_rfl) rfl (by simp [Value.oneCell']) ?_)
    rw [HOG.out]
    rw [HOG.out] at Q2 R2 K2 z2 zV1 zW0
    clear hV1 Q1
    generalize V1.setRow og #[.int .i64 1, .int .i64 0, .int .i64 1, .slice none 0 0, .slice none 0 0, .slice none 0 0, .slice none 0 0] = w1 at Q2 R2 K2 z2 ⊢
    have lo : og < w1.heap.size := by omega
    clear HOG zV1 z2 zW0
    go_loopw [13] (fun i wr => ∃ (k : Nat) (A' : Option Addr) (c' : Nat) (hs : List InnZ), k ≤ n ∧ i = .int .i64 k ∧ Hid (hs.length = k) ∧ Hid (∀ z ∈ hs, z.t = 0) ∧ Hid (wr.heap[og]? = some (.cells #[.int .i64 1, .int .i64 0, .int .i64 1, .slice A' k c', .slice none 0 0, .slice none 0 0, .slice none 0 0] 27)) ∧ Hid (wr.ownsRow w1.heap.size 41 3 (.slice A' k c') k (hs.flatMap Cells.cells)) ∧ Hid (GrownS w1 wr (fun t => t = og)) ∧ w1.heap.size ≤ wr.heap.size) (fun i _ => n - (intOf i).toNat)
    case atStart => exact ⟨0, none, 0, [], Nat.zero_le _, rfl, rfl, (fun z hz => by cases hz), Q2.out, World.ownsRow_nil w1 w1.heap.size _ _, GrownS.refl _ _, Nat.le_refl _⟩
    case round =>
      obtain ⟨k, A', c', hs, hk, rfl, hL, hT, hO, hR, hB, hzr⟩ := hrel
      have KW : Below w.heap.size w wr := hB.out.below K2.out K2.out.size (fun j e => by have e1 : j = og := e; omega)
      by_cases hlt : k < n
      · have hk0 : (0 : Int) ≤ (k : Int) := by omega
        have hkn : (k : Int) < (n : Int) := by omega
        go_wp2_with fail
        refine (NewMemory_impl 0 wr).mono ?_
        rintro e w2 ⟨NA, nn, nc, rfl, hM, hb⟩
        obtain rfl : 0 = nn := hM.len
        have hnz : NA = none → nc = 0 := fun e => by
          rcases hM.form with ⟨_, _, h⟩ | ⟨g, h⟩
          · exact h
          · rw [e] at h; cases h
        have hs2 := hb.size
        clear hM
        rw [sinceZ]
        have hO2 := Lib.hid (blk_on hb hO.out)
        have hR2 := Lib.hid (own_heap hR.out fun t e => hb.block t (own_ltA hR.out e).2)
        have hB2 : Hid (GrownS w1 w2 (fun t => t = og)) := hB.out.trans (GrownS.low hb)
        have KW2 := Lib.hid (KW.trans (hb.mono KW.size))
        clear hO hR hB KW hb
        obtain ⟨W1, hW1⟩ : ∃ V, w2.alloc (.cells #[.slice none 0 0, .int .i64 0] 36) = V := ⟨_, rfl⟩
        have b1 : Below w2.heap.size w2 W1 := by rw [← hW1]; exact (Below.refl _ w2).alloc (Nat.le_refl _) _
        have M1 : Hid (W1.heap[w2.heap.size]? = some (.cells #[.slice none 0 0, .int .i64 0] 36)) := by rw [← hW1]; exact heap1 w2 _
        have hO3 := blk_on b1 hO2.out
        have hR3 := own_heap hR2.out fun t e => b1.block t (own_ltA hR2.out e).2
        have s1 : W1.heap.size = w2.heap.size + 1 := by rw [← hW1]; simp
        have hlt2 : og < w2.heap.size := by omega
        have hfoot : ∀ t, blkA A' = some t → w1.heap.size ≤ t ∧ t < w2.heap.size := fun t e => own_ltA hR2.out e
        have M4 : Hid ((W1.setRow w2.heap.size #[.slice NA 0 nc, .int .i64 0]).heap[w2.heap.size]? = some (.cells #[.slice NA 0 nc, .int .i64 0] 36)) := setRow_heap _ _ _ _ _ _ M1.out
        have hO4 : Hid ((W1.setRow w2.heap.size #[.slice NA 0 nc, .int .i64 0]).heap[og]? = some (.cells #[.int .i64 1, .int .i64 0, .int .i64 1, .slice A' k c', .slice none 0 0, .slice none 0 0, .slice none 0 0] 27)) := (setRow_other _ _ _ _ (by omega)).trans hO3
        have hR4 : Hid ((W1.setRow w2.heap.size #[.slice NA 0 nc, .int .i64 0]).ownsRow w1.heap.size 41 3 (.slice A' k c') k (hs.flatMap Cells.cells)) := own_heap hR3 fun t e => setRow_other _ _ _ _ (by have := (hfoot t e).2; omega)
        have bS : Below w2.heap.size w2 (W1.setRow w2.heap.size #[.slice NA 0 nc, .int .i64 0]) := below_setRow b1 (by omega) _
        have hB4 : Hid (GrownS w1 (W1.setRow w2.heap.size #[.slice NA 0 nc, .int .i64 0]) (fun t => t = og)) := hB2.out.trans (GrownS.low bS)
        have KW4 : Hid (Below w.heap.size w (W1.setRow w2.heap.size #[.slice NA 0 nc, .int .i64 0])) := KW2.out.trans (bS.mono KW2.out.size)
        have zS := size_setRow W1 w2.heap.size #[.slice NA 0 nc, .int .i64 0]
        clear hO2 hR2 hB2 KW2 hO3 hR3 bS b1
        go_wp2_with (refine wpList_store_row rfl 36 _ _ rfl (w2.heap.size) #[.slice NA 0 nc, .int .i64 0] rfl rfl 36 _ M1.out (by kernel_rfl) rfl (by simp [Value.oneCell']) ?_)
        clear hW1 M1
        generalize W1.setRow w2.heap.size #[.slice NA 0 nc, .int .i64 0] = S4 at M4 hO4 hR4 hB4 KW4 zS ⊢
        obtain ⟨mg, hmg⟩ : ∃ g, w2.heap.size = g := ⟨_, rfl⟩
        rw [hmg] at M4 hlt2 hfoot s1 hs2 ⊢
        clear hmg
        have hzr4 : w1.heap.size ≤ S4.heap.size := by omega
        have hbA : ∀ t, t < w1.heap.size → blkA A' ≠ some t := fun t ht e => by have := (hfoot t e).1; omega
        clear s1 hs2 zS
        have hS0 : Stays (plainEnv S4 (og :: (blkA A').toList)) (fun w' => w'.heap[og]? = some (.cells #[.int .i64 1, .int .i64 0, .int .i64 1, .slice A' k c', .slice none 0 0, .slice none 0 0, .slice none 0 0] 27) ∧ w'.ownsRow w1.heap.size 41 3 (.slice A' k c') k (hs.flatMap Cells.cells)) := stays_and (stays_blk (E := plainEnv S4 (og :: (blkA A').toList)) (.inr (by simp)) _) (fun w1 w2 hc h b => own_heap h fun t e => b.block t (h.lt t (by rw [← e]; cases A' <;> rfl)).2)
        refine wp_region_own (W := S4) (og :: (blkA A').toList) (fun w' => w'.heap[og]? = some (.cells #[.int .i64 1, .int .i64 0, .int .i64 1, .slice A' k c', .slice none 0 0, .slice none 0 0, .slice none 0 0] 27) ∧ w'.ownsRow w1.heap.size 41 3 (.slice A' k c') k (hs.flatMap Cells.cells)) hS0 ⟨hO4.out, hR4.out⟩ [0, 5, 0, 1, 2, 3, 0, 3] (by kernel_rfl) (by kernel_rfl) (by kernel_rfl) ?_
        have rX : Hid (∀ x : In (plainEnv S4 (og :: (blkA A').toList)), x.w.heap[mg]? = some (.cells #[.slice NA 0 nc, .int .i64 0] 36)) := fun x => x.block M4.out (by simp; exact ⟨by omega, fun e => by have := (hfoot _ e).2; omega⟩)
        refine wpO_quiet 1 rfl (by kernel_rfl) ?_
        simp only [List.take, List.drop]
        repeat (go_big_quiet_step (fail))
        refine wpQuiet_nil ?_
        refine wpO_cell5 (g := og) (i := 3) (cs := #[.int .i64 1, .int .i64 0, .int .i64 1, .slice A' k c', .slice none 0 0, .slice none 0 0, .slice none 0 0]) (.slice A' k c') rfl hS0 (fun w' hw hF => hF.1) rfl (fun w' h => by simp [go_sem, h]) ?_
        simp only [Act.put, List.setIfInBounds_toArray, List.set_cons_succ, List.set_cons_zero]
        refine wpO_load_row rfl 36 _ rfl mg rfl 36 _ (0, 0) _ rX.out Try.underlying36 rfl (by kernel_rfl) ?_
        simp only [Act.put, List.setIfInBounds_toArray, List.set_cons_succ, List.set_cons_zero]
        refine wpO_callx (f := 12) (args := #[.agg #[.slice NA 0 nc, .int .i64 0], .slice none 0 0]) (α := InnZ) (fun z => .agg #[.slice z.MA 0 z.mc, .int .i64 0, .slice z.SA 0 z.sc]) (fun _ => []) (fun _ _ => True) rfl (fun w' => by simp [go_sem]) (fun z w1 w2 hw h b => h) (fun G => ⟨.zero, fun k hk => by cases hk⟩) (fun w' hw hF => ?_) (fun z hz => ?_)
        · exact (innWith_any NA 0 nc [] 0 none 0 0 [] w' ⟨nums_nil _ _ _, seatsO_nil _ _ _⟩ hnz (Nat.zero_le _) (Nat.zero_le _) (fun q hq => by cases hq)).mono fun e w'' ⟨⟨iM, im, ic, iA, il, iC, ih⟩, he, hm1, hm2, _, b1⟩ => by
            obtain rfl : 0 = im := hm1.symm
            obtain rfl : 0 = il := hm2.symm
            exact ⟨⟨iM, ic, 0, iA, iC⟩, he, trivial, b1, fun k hk => by cases hk⟩
        obtain ⟨zM, zc, zt, zS, zd⟩ := z
        dsimp only
        simp only [Act.put, List.setIfInBounds_toArray, List.set_cons_succ, List.set_cons_zero]
        refine wpO_row (.cells #[.slice zM 0 zc, .int .i64 0, .slice zS 0 zd] 41) 1 rfl (fun w' => by simp [go_sem]) fun ge mge hge => ?_
        simp only [Act.put, List.setIfInBounds_toArray, List.set_cons_succ, List.set_cons_zero]
        refine wpO_appendA (fun w' => w'.heap[og]? = some (.cells #[.int .i64 1, .int .i64 0, .int .i64 1, .slice A' k c', .slice none 0 0, .slice none 0 0, .slice none 0 0] 27)) _ _ 22 rfl rfl w1.heap.size 41 i0 InnZ.zero.val 3 by0 Try.underlying22 hi hz0 hz1 hz2 rfl (by decide) k (hs.flatMap Cells.cells) A' c' rfl (fun t e => .inr (by simp; exact .inr e)) ⟨ge, 0, none⟩ 1 1 ([(InnZ.mk zM zc 0 zS zd)].flatMap Cells.cells) rfl rfl flat_one (by omega) (by unfold maxLen; omega) (Nat.le_trans (Nat.mul_le_mul (by omega : k + 1 ≤ 1048577) hby) (by decide)) hzr4 (fun w' hw hF => ⟨hF.1.1.1, hF.1.1.2, fun j u hu => by rw [Go.WideShapes.add_plain, Nat.zero_add, blk_cell hF.2, ← Array.getElem?_toList]; rw [List.flatMap_cons, List.flatMap_nil, List.append_nil] at hu; exact hu⟩) (stays_blk (E := plainEnv S4 (og :: (blkA A').toList)) (.inr (by simp)) _) (fun w1 w2 hk h => (hk og (blk_in h) (hbA og lo)).trans h) (fun gb' cb' hgb' hgm => ?_)
        simp only [Act.put, List.setIfInBounds_toArray, List.set_cons_succ, List.set_cons_zero]
        refine wpO_quiet 1 rfl (by kernel_rfl) ?_
        simp only [List.take, List.drop]
        repeat (go_big_quiet_step (fail))
        refine wpQuiet_nil ?_
        refine wpO_put (g := og) (i := 3) (t := 27) (cs := #[.int .i64 1, .int .i64 0, .int .i64 1, .slice A' k c', .slice none 0 0, .slice none 0 0, .slice none 0 0]) (fun w' => w'.ownsRow w1.heap.size 41 3 (.slice (some ⟨gb', 0, none⟩) (k + 1) cb') (k + 1) (hs.flatMap Cells.cells ++ [(InnZ.mk zM zc 0 zS zd)].flatMap Cells.cells)) (.slice (some ⟨gb', 0, none⟩) (k + 1) cb') rfl (.inr (by simp)) (fun w' h => by have h1 := blk_cell h 3; have h2 := blk_frozen h 3; simp [go_sem, h1, h2]) (fun w' h => ⟨h.2, h.1⟩) (fun w1 w2 hc h b => own_heap h fun t e => b.block t (h.lt t e).2) (fun w1 w2 hw h => own_heap h fun t e => hw t (h.lt t e).2 (by have e1 : gb' = t := Option.some.inj e; omega)) ?_
        simp only [Act.put]
        refine wpO_nil ?_
        rintro w6 b6 ⟨h2, h3⟩
        have HO := Lib.hid h3
        have hs6 := b6.size
        have HN : Hid (w6.ownsRow w1.heap.size 41 3 (.slice (some ⟨gb', 0, none⟩) (k + 1) cb') (k + 1) ((hs ++ [InnZ.mk zM zc 0 zS zd]).flatMap Cells.cells)) := by rw [List.flatMap_append]; exact h2
        have HL : Hid ((hs ++ [InnZ.mk zM zc 0 zS zd]).length = k + 1) := by rw [List.length_append, hL.out]; rfl
        have HT : Hid (∀ z ∈ hs ++ [InnZ.mk zM zc 0 zS zd], z.t = 0) := fun z hz => by
          rcases List.mem_append.1 hz with h | h
          · exact hT.out z h
          · rw [List.mem_singleton.1 h]
        have HB6 : Hid (GrownS w1 w6 (fun t => t = og)) := ⟨b6.os.trans hB4.out.os, b6.tape.trans hB4.out.tape, b6.output.trans hB4.out.output, Nat.le_trans hB4.out.size b6.size, fun t ht hne => (b6.block t (Nat.lt_of_lt_of_le ht hB4.out.size) (by simp; exact ⟨hne, hbA t ht⟩)).trans (hB4.out.block t ht hne)⟩
        clear h2 h3 b6 hS0 rX hO4 hR4 hB4 KW4 M4 hfoot hbA hL hT
        go_wp2
        go_roundw
        case rel => exact ⟨k + 1, some ⟨gb', 0, none⟩, cb', _, by omega, by go_num, HL.out, HT.out, HO.out, HN.out, HB6.out, by omega⟩
        case measure => simp [intOf]; omega
      · obtain rfl : k = n := by omega
        have hlt' : ¬ (k : Int) < (k : Int) := by omega
        have R3 := Lib.hid ((hB.out.block _ (by omega) (by omega)).trans R2.out)
        have KW2 := Lib.hid KW
        have HI := Lib.hid ((own_out (α := InnZ) hR.out hL.out).mono (base' := w.heap.size) (by have := K2.out.size; omega))
        have hfoot : ∀ t, blkA A' = some t → w1.heap.size ≤ t := fun t e => (own_ltA hR.out e).1
        have hO2 := hO
        clear hR hO hB KW
        go_wp2_with (first | (refine wpList_load_row rfl 27 _ rfl og rfl 27 _ (0, 0) _ hO2.out Try.underlying27 rfl (by kernel_rfl) ?_) | (refine wpList_store_row rfl 27 _ _ rfl (w.heap.size) #[.int .i64 1, .int .i64 0, .int .i64 1, .slice A' k c', .slice none 0 0, .slice none 0 0, .slice none 0 0] rfl rfl 27 _ R3.out (by kernel_rfl) rfl (by simp [Value.oneCell']) ?_))
        exact row_ret2 (r := w.heap.size) (cs := #[.int .i64 1, .int .i64 0, .int .i64 1, .slice A' k c', .slice none 0 0, .slice none 0 0, .slice none 0 0]) rfl rfl rfl (setRow_heap _ _ _ _ _ _ R3.out) Try.underlying27 rfl (by kernel_rfl) rfl ⟨A', none, none, none, c', 0, 0, 0, hs, by rw [E1.out, E2.out, HB.out]; rfl, by rw [E2.out]; exact HI.out.heap (fun t e => setRow_other _ _ _ _ (by have := hfoot t e; omega)), hT.out, below_setRow KW2.out (by omega) _⟩

end Go.Proofs.Ytakhjdodljhfmaa.Tx
