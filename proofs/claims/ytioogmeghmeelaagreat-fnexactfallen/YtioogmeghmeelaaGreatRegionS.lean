/-
  In a region that draws its order: a store into one cell of a block of the call's own, a load of one of its cells beside a call, an append onto a row of the call's own or onto nil. No conditions. Nothing of the program is named here.
-/
import Derived.Maps.AppendAt
import Derived.Test.YtioogmeghmeelaaGreatRegionO
import Derived.Test.YtioogmeghmeelaaGreatOutE
namespace Go.Proofs.YtioogmeghmeelaaGreat.Tx
open Go Go.RowKit

section
variable {P : Program} {ops : Array Oper} {E : Env} {Q : Act → World → Prop}
/-- A store into one cell. -/
theorem wpO_put {kl : List Nat} {o : Oper} {l : List Oper} {G : List Nat} {F : World → Prop} {a : Act} {g i : Nat} {t : TypeId} {cs : Array Value} (F0 : World → Prop) (v : Value) (hw : Region.wanted o (yielded ops a.tmps) = true) (hg : E.mine g)
    (hr : ∀ w : World, w.heap[g]? = some (.cells cs t (0, 0)) → (execOp a.eval o).run P w = .ok .skip (w.setCell ⟨g, i, none⟩ v))
    (hF : ∀ w, F w → F0 w ∧ w.heap[g]? = some (.cells cs t (0, 0))) (hS : Stays E F0) (hA : Away g F0)
    (h : wpO P ops E Q kl l G (fun w => F0 w ∧ w.heap[g]? = some (.cells (cs.setIfInBounds i v) t (0, 0))) (a.put o.dst undef)) : wpO P ops E Q (3 :: kl) (o :: l) G F a := by
  rw [wpO, if_pos hw]
  refine ⟨Unit, fun _ => undef, fun _ w => F0 w ∧ w.heap[g]? = some (.cells (cs.setIfInBounds i v) t (0, 0)), ⟨()⟩, fun _ => stays_and hS (stays_blk hg _), fun w hb hf => ?_, fun h => absurd h (by decide), fun h => absurd h (by decide), fun _ => h⟩
  obtain ⟨h0, hblk⟩ := hF w hf
  have off : ∀ k, k ≠ g → (w.setCell ⟨g, i, none⟩ v).heap[k]? = w.heap[k]? := fun k hk => Below.heap_setCell w ⟨g, i, none⟩ v k hk
  refine ⟨(), w.setCell ⟨g, i, none⟩ v, .inr ⟨hr w hblk, rfl⟩, E.free hb rfl rfl rfl (by simp [World.setCell]) (fun k hk => off k (fun e => hk (e ▸ hg))), by simp [World.setCell], hA w _ (fun k _ hk => off k hk) h0, ?_⟩
  simp [World.setCell, Array.getElem?_modify, hblk]
/-- A load of one cell, beside calls. -/
theorem wpO_cell5 {kl : List Nat} {o : Oper} {l : List Oper} {G : List Nat} {F : World → Prop} {a : Act} {g i : Nat} {t : TypeId} {cs : Array Value} (v : Value) (hw : Region.wanted o (yielded ops a.tmps) = true) (hS : Stays E F)
    (hg : ∀ w, E.C w → F w → w.heap[g]? = some (.cells cs t (0, 0))) (hv : cs[i]? = some v)
    (hr : ∀ w : World, w.cell? ⟨g, i, none⟩ = some v → (execOp a.eval o).run P w = .ok (.value v) w) (h : wpO P ops E Q kl l G F (a.put o.dst v)) : wpO P ops E Q (5 :: kl) (o :: l) G F a :=
  wpO_read5 v hw hS (fun w hc hf => hr w (by simp [World.cell?, hg w hc hf, hv])) h
/-- What is as it was in all blocks but A's is told by F. -/
def AwayA (A : Option Addr) (F : World → Prop) : Prop := ∀ w w' : World, (∀ k, k < w.heap.size → blkA A ≠ some k → w'.heap[k]? = w.heap[k]?) → F w → F w'
/-- append onto a row of the call's own, or onto nil. -/
theorem wpO_appendA {kl : List Nat} {o : Oper} {l : List Oper} {G : List Nat} {F : World → Prop} {a : Act} (F0 : World → Prop) (s x : Operand) (t : TypeId) (hw : Region.wanted o (yielded ops a.tmps) = true)
    (ho : o.op = .call { callee := .builtin .append, args := #[s, x], argTypes := #[t, t] })
    (base : Nat) (e : TypeId) (i : TypeInfo) (z : Value) (size bytes : Nat) (ht : P.underlying t = some (.slice e)) (hi : P.info? e = some i) (hz : i.zero = some z)
    (hsize : i.size = size) (hby : i.bytes = bytes) (hzs : z.cells.size = size) (hsz : 0 < size)
    (n : Nat) (xs : List Value) (A : Option Addr) (cb : Nat) (hs : a.eval s = .slice A n cb) (hmine : ∀ k, blkA A = some k → E.mine k)
    (ad : Addr) (m c : Nat) (news : List Value) (hx : a.eval x = .slice (some ad) m c) (hl : news.length = m * size) (h1 : ∀ u ∈ news, u.oneCell' = true) (hm : 0 < m)
    (h63 : n + m ≤ maxLen) (hbytes : (n + m) * bytes ≤ 140737488355328) (hbase : base ≤ E.lim)
    (hF : ∀ w, E.C w → F w → F0 w ∧ w.ownsRow base e size (.slice A n cb) n xs ∧ ∀ j u, news[j]? = some u → w.cell? (ad.add j) = some u) (hS : Stays E F0) (hA : AwayA A F0)
    (h : ∀ gb' cb', base ≤ gb' → E.mine gb' → wpO P ops E Q kl l G (fun w => F0 w ∧ w.ownsRow base e size (.slice (some ⟨gb', 0, none⟩) (n + m) cb') (n + m) (xs ++ news)) (a.put o.dst (.slice (some ⟨gb', 0, none⟩) (n + m) cb'))) : wpO P ops E Q (3 :: kl) (o :: l) G F a := by
  rw [wpO, if_pos hw]
  have fresh : E.mine E.lim := E.own (Nat.le_refl _)
  refine ⟨{ y : Nat × Nat // base ≤ y.1 ∧ E.mine y.1 }, fun y => .slice (some ⟨y.1.1, 0, none⟩) (n + m) y.1.2, fun y w => F0 w ∧ w.ownsRow base e size (.slice (some ⟨y.1.1, 0, none⟩) (n + m) y.1.2) (n + m) (xs ++ news), ⟨⟨(E.lim, 0), hbase, fresh⟩⟩, fun y => stays_and hS ?_, fun w hb hf => ?_, fun h => absurd h (by decide), fun h => absurd h (by decide), fun y => h y.1.1 y.1.2 y.2.1 y.2.2⟩
  · intro w w' hc hr ht'
    refine ⟨hr.1, ?_⟩
    rcases hr.2 with ⟨e, _⟩ | ⟨g, cap, cur, hv, hg, hh, rest⟩
    · cases e
    · refine .inr ⟨g, cap, cur, hv, hg, E.blk hc ht' ?_ hh, rest⟩
      injection hv with hv _ _
      have eg : y.1.1 = g := congrArg Addr.block (Option.some.inj hv)
      rw [← eg]
      exact y.2.2
  · obtain ⟨h0, hown, hnews⟩ := hF w hb hf
    obtain ⟨v', w', hr, h2, h3, h4, h5⟩ := run_append_own_at (P := P) w base t o.type e i z size bytes ht hi hz hsize hby hzs hsz _ n xs hown ad m c news hl hnews h1 h63 hbytes (Nat.le_trans hbase (E.lo hb))
    have hob : ∀ k, (Value.slice A n cb).ownBlock = some k ↔ blkA A = some k := fun k => by cases A <;> exact Iff.rfl
    obtain ⟨gb', cb', rfl⟩ : ∃ gb' cb', v' = .slice (some ⟨gb', 0, none⟩) (n + m) cb' := by
      rcases h2.2 with ⟨e, _⟩ | ⟨g, cap, cur, e, _⟩
      · have := (h4.1 e).2; omega
      · exact ⟨g, cap, e⟩
    have hk : ∀ k, k < w.heap.size → blkA A ≠ some k → w'.heap[k]? = w.heap[k]? := fun k hk hne => h3.block k hk (by intro e; exact hne ((hob k).1 e.symm))
    have hle : base ≤ gb' := (h2.lt gb' rfl).1
    have hmi : E.mine gb' := by
      rcases h5 with h5 | h5
      · exact hmine gb' ((hob gb').1 h5.symm)
      · have eg : gb' = w.heap.size := Option.some.inj h5
        exact E.own (by rw [eg]; exact E.lo hb)
    refine ⟨⟨(gb', cb'), hle, hmi⟩, w', .inl ?_, E.free hb h3.os h3.tape h3.output h3.size (fun k hn => ?_), h3.size, hA w w' hk h0, h2⟩
    · obtain ⟨dst, op, type, pos, after, guard⟩ := o
      subst ho
      simp only [execOp, resolve, invoke, builtin, Sem.run_bind, Sem.run_pure, Result.andThen_ok, List.map_toArray, List.map_cons, List.map_nil, hs, hx, hr]
    · refine hk k ?_ (fun e => hn (hmine k e))
      rcases Nat.lt_or_ge k w.heap.size with h | h
      · exact h
      · exact absurd (E.own (Nat.le_trans (E.lo hb) h)) hn

end
end Go.Proofs.YtioogmeghmeelaaGreat.Tx
