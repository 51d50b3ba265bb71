/-
  A list of seats that grows by append and is stored into. No conditions.
-/
import Derived.Test.YtioogmeghmeelaaGreatInn6
import Derived.Test.YtioogmeghmeelaaGreatSeat5
namespace Go.Proofs.YtioogmeghmeelaaGreat.Tx
open Go.RowKit

/-- A list of seats as an append left it (or nil), each log made by the call. -/
structure RowS (w : World) (base : Nat) (A : Option Addr) (n c : Nat) (hs : List SeatH) (ss : List SeatL) : Prop where
  own : w.ownsRow base 68 15 (.slice A n c) n (hs.flatMap Cells.cells)
  len : hs.length = n
  len2 : ss.length = n
  log : ∀ (j : Nat) (x : SeatH) (q : SeatL), hs[j]? = some x → ss[j]? = some q → x.s = q.s ∧ OutE w base 107 x.A x.n x.c q.l
  logs : ∀ (i j : Nat) (x y : SeatH), hs[i]? = some x → hs[j]? = some y → i ≠ j → ∀ k, blkA x.A = some k → blkA y.A ≠ some k
section
variable {w w' : World} {base n c : Nat} {A : Option Addr} {hs : List SeatH} {ss : List SeatL}
theorem rowS_nil (w : World) (base : Nat) : RowS w base none 0 0 [] [] :=
  ⟨World.ownsRow_nil w base _ _, rfl, rfl, fun j x q hx => by simp at hx, fun i j x y hx => by simp at hx⟩
set_option maxHeartbeats 1000000 in
theorem own_out {α : Type} [Cells α] {T : TypeId} {l : List α} (h : w.ownsRow base T (Cells.sz α) (.slice A n c) n (l.flatMap Cells.cells)) (hn : l.length = n) : OutE w base T A n c l := by
  rcases h.2 with ⟨e, h0⟩ | ⟨g, cap, cur, e, _⟩
  · injection e with e1 e2 e3
    subst e1 e3 h0
    exact .inl ⟨rfl, rfl, rfl, List.eq_nil_of_length_eq_zero hn⟩
  · injection e with e1 e2 e3
    subst e1
    subst hn
    exact .inr ⟨g, rfl, rfl, ⟨h⟩⟩
/-- Its block holds such elements. -/
theorem OutE.kind {α : Type} [Cells α] {T : TypeId} {l : List α} (h : OutE w base T A n c l) {k : Nat} (e : blkA A = some k) : ∃ cs : Array Value, w.heap[k]? = some (.cells cs T (0, 0)) := by
  rcases h with ⟨rfl, _⟩ | ⟨g, rfl, _, m⟩
  · cases e
  · have eg : g = k := Option.some.inj e
    subst eg
    rcases m.own.2 with ⟨e, _⟩ | ⟨g', cap, cur, hv, _, hh, _⟩
    · cases e
    · injection hv with hv _ _
      have eg : g = g' := congrArg Addr.block (Option.some.inj hv)
      subst eg
      exact ⟨cur, hh⟩
theorem kind_one {k : Nat} {cs cs' : Array Value} {T T' : TypeId} (h : w.heap[k]? = some (.cells cs T (0, 0))) (h' : w.heap[k]? = some (.cells cs' T' (0, 0))) : T = T' := by
  have e := Option.some.inj (h.symm.trans h')
  injection e
theorem RowS.out (h : RowS w base A n c hs ss) : OutE w base 68 A n c hs := own_out h.own h.len
theorem RowS.at (h : RowS w base A n c hs ss) {j : Nat} {x : SeatH} (hx : hs[j]? = some x) : ∃ q, ss[j]? = some q ∧ OutE w base 107 x.A x.n x.c q.l := by
  have hj : j < ss.length := by rw [h.len2, ← h.len]; exact (List.getElem?_eq_some_iff.1 hx).1
  exact ⟨_, List.getElem?_eq_getElem hj, (h.log j x _ hx (List.getElem?_eq_getElem hj)).2⟩
theorem RowS.apart (h : RowS w base A n c hs ss) : ApartS A hs := ⟨h.logs, fun j y hy k e e2 => by
  obtain ⟨q, _, o⟩ := h.at hy
  obtain ⟨_, h1⟩ := o.kind e
  obtain ⟨_, h2⟩ := h.out.kind e2
  exact absurd (kind_one h1 h2) (by decide)⟩
theorem RowS.held (h : RowS w base A n c hs ss) : HeldS w base A n hs ss := by
  refine ⟨h.len, h.len2, ?_, fun j x q hx hq => ?_, h.apart⟩
  · rcases h.out with ⟨e, e2, _⟩ | ⟨g, rfl, e, m⟩
    · exact .inl ⟨e, e2⟩
    · refine .inr ⟨g, rfl, m.base.1, m.base.2, ?_, fun j x hx => ?_⟩
      · have := made_there m
        rw [h.len] at this
        exact this
      · have := (MadeG.lies m).2 j x hx
        rw [Nat.zero_add] at this
        exact this
  · obtain ⟨h1, h2⟩ := h.log j x q hx hq
    obtain ⟨h3, h4, h5⟩ := h2.held
    exact ⟨h1, h4, h3, h5⟩
theorem RowS.foot (h : RowS w base A n c hs ss) {k : Nat} (e : FootS A hs k) : base ≤ k ∧ k < w.heap.size := h.held.foot e
theorem own_heap {T : TypeId} {sz : Nat} {vs : List Value} (h : w.ownsRow base T sz (.slice A n c) n vs) (he : ∀ k, blkA A = some k → w'.heap[k]? = w.heap[k]?) : w'.ownsRow base T sz (.slice A n c) n vs := by
  refine ⟨h.1, ?_⟩
  rcases h.2 with h1 | ⟨g, cap, cur, hv, hg, hh, r⟩
  · exact .inl h1
  · refine .inr ⟨g, cap, cur, hv, hg, (he g ?_).trans hh, r⟩
    injection hv with hv _ _
    rw [hv]
    rfl
theorem RowS.heap (h : RowS w base A n c hs ss) (he : ∀ k, FootS A hs k → w'.heap[k]? = w.heap[k]?) : RowS w' base A n c hs ss :=
  ⟨own_heap h.own fun k e => he k (.inl e), h.len, h.len2, fun j x q hx hq => ⟨(h.log j x q hx hq).1, (h.log j x q hx hq).2.heap fun k e => he k (.inr ⟨j, x, hx, e⟩)⟩, h.logs⟩
theorem RowS.on (h : RowS w base A n c hs ss) (b : Below w.heap.size w w') : RowS w' base A n c hs ss := h.heap fun k e => b.block k (h.foot e).2
theorem getElem?_snoc {α : Type} {l : List α} {a b : α} {j : Nat} (h : (l ++ [a])[j]? = some b) : (j < l.length ∧ l[j]? = some b) ∨ (j = l.length ∧ a = b) := by
  by_cases hj : j < l.length
  · rw [List.getElem?_append_left hj] at h
    exact .inl ⟨hj, h⟩
  · rw [List.getElem?_append_right (by omega)] at h
    have hj2 : j = l.length := by
      have := (List.getElem?_eq_some_iff.1 h).1
      simp at this
      omega
    subst hj2
    rw [Nat.sub_self] at h
    exact .inr ⟨rfl, Option.some.inj h⟩
/-- One seat more: its log made since then, all other blocks as they were but the handles' one and one that is none of these. -/
theorem RowS.next {A' : Option Addr} {c' : Nat} (h : RowS w base A n c hs ss) (x : SeatH) (q : SeatL) (e1 : x.s = q.s) (o : OutE w' w.heap.size 107 x.A x.n x.c q.l) (hb : base ≤ w.heap.size)
    (he : ∀ (j : Nat) (y : SeatH), hs[j]? = some y → ∀ t, blkA y.A = some t → w'.heap[t]? = w.heap[t]?) (hown : w'.ownsRow base 68 15 (.slice A' (n + 1) c') (n + 1) ((hs ++ [x]).flatMap Cells.cells)) : RowS w' base A' (n + 1) c' (hs ++ [x]) (ss ++ [q]) := by
  refine ⟨hown, by rw [List.length_append, h.len]; rfl, by rw [List.length_append, h.len2]; rfl, fun j y p hy hp => ?_, fun i j y z hy hz hne t ht ht2 => ?_⟩
  · rcases getElem?_snoc hy with ⟨hj, hy⟩ | ⟨hj, rfl⟩
    · rcases getElem?_snoc hp with ⟨_, hp⟩ | ⟨hj2, _⟩
      · obtain ⟨l1, l2⟩ := h.log j y p hy hp
        exact ⟨l1, l2.heap (he j y hy)⟩
      · rw [h.len2, ← h.len] at hj2; omega
    · rcases getElem?_snoc hp with ⟨hj2, _⟩ | ⟨_, rfl⟩
      · rw [h.len2, ← h.len] at hj2; omega
      · exact ⟨e1, o.mono hb⟩
  · rcases getElem?_snoc hy with ⟨hi, hy⟩ | ⟨hi, rfl⟩
    · rcases getElem?_snoc hz with ⟨hj, hz⟩ | ⟨hj, rfl⟩
      · exact h.logs i j y z hy hz hne t ht ht2
      · have := (h.foot (.inr ⟨i, y, hy, ht⟩)).2
        have := (o.lt ht2).1
        omega
    · rcases getElem?_snoc hz with ⟨hj, hz⟩ | ⟨hj, rfl⟩
      · have := (h.foot (.inr ⟨j, z, hz, ht2⟩)).2
        have := (o.lt ht).1
        omega
      · omega
end
section
variable {w : World} {base g n : Nat} {hs : List SeatH} {ss : List SeatL}
theorem At.past {α : Type} [Cells α] {o k : Nat} {a : α} {vs : List Value} (h : At w g o a) (hk : k + vs.length ≤ o) : At (Tx.setAll w g k vs) g o a := fun i v hv => by
  rw [setAll_past vs k (by show k + vs.length ≤ o + i; omega)]
  exact h i v hv
theorem getElem?_put {α : Type} {l : List α} {a b : α} {i j : Nat} (h : (l.set i a)[j]? = some b) : (i = j ∧ a = b) ∨ (i ≠ j ∧ l[j]? = some b) := by
  rw [List.getElem?_set] at h
  by_cases e : i = j
  · rw [if_pos e] at h
    by_cases hj : i < l.length
    · rw [if_pos hj] at h
      exact .inl ⟨e, Option.some.inj h⟩
    · rw [if_neg hj] at h
      cases h
  · rw [if_neg e] at h
    exact .inr ⟨e, h⟩
/-- One seat is stored. -/
theorem HeldS.put (h : HeldS w base (some ⟨g, 0, none⟩) n hs ss) {j : Nat} (hj : j < n) (x : SeatH) (q : SeatL) (e1 : x.s = q.s) (e2 : EltsO w w.heap.size x.A x.n q.l) (e3 : HeldL w base x.A x.n) (e4 : x.A = none → x.c = 0) (hf : ∀ t, blkA x.A = some t → ¬ FootS (some ⟨g, 0, none⟩) hs t) :
    HeldS (setAll w g (j * 15) (Cells.cells x)) base (some ⟨g, 0, none⟩) n (hs.set j x) (ss.set j q) := by
  have hz : (setAll w g (j * 15) (Cells.cells x)).heap.size = w.heap.size := setAll_size _ _ _
  have off : ∀ t, t ≠ g → (setAll w g (j * 15) (Cells.cells x)).heap[t]? = w.heap[t]? := fun t ht => setAll_off ht _ _
  have hg : ∀ t, (∀ u, t = u → blkA (some (⟨g, 0, none⟩ : Addr)) ≠ some u) → t ≠ g := fun t ht e => ht t rfl (by rw [e]; rfl)
  refine ⟨by rw [List.length_set]; exact h.len, by rw [List.length_set]; exact h.len2, .inr ?_, fun i y p hy hp => ?_, ⟨fun i k y z hy hz' hne t ht ht2 => ?_, fun i y hy t ht ht2 => ?_⟩⟩
  · rcases h.front with ⟨e, _⟩ | ⟨g', e, h1, h2, h3, h4⟩
    · cases e
    · have eg : g = g' := congrArg Addr.block (Option.some.inj e)
      subst eg
      refine ⟨g, rfl, h1, by rw [hz]; exact h2, There.setAll _ _ h3, fun i y hy => ?_⟩
      rcases getElem?_put hy with ⟨rfl, rfl⟩ | ⟨hne, hy⟩
      · exact At.new (c := n * 15) x h3 (by show j * 15 + 15 ≤ _; omega)
      · by_cases hlt : i < j
        · exact (h4 i y hy).far (by show i * 15 + 15 ≤ _; omega)
        · exact (h4 i y hy).past (by show j * 15 + 15 ≤ _; omega)
  · rcases getElem?_put hy with ⟨rfl, rfl⟩ | ⟨hne, hy⟩
    · rcases getElem?_put hp with ⟨_, rfl⟩ | ⟨hne, _⟩
      · have o : ∀ t, blkA x.A = some t → (setAll w g (j * 15) (Cells.cells x)).heap[t]? = w.heap[t]? := fun t ht => off t fun e => hf t ht (.inl (by rw [e]; rfl))
        exact ⟨e1, e2.same o (Nat.le_of_eq hz.symm), e3.heap o (Nat.le_of_eq hz.symm), e4⟩
      · exact absurd rfl hne
    · rcases getElem?_put hp with ⟨e, _⟩ | ⟨_, hp⟩
      · exact absurd e hne
      · obtain ⟨l1, l2, l3, l4⟩ := h.log i y p hy hp
        have o : ∀ t, blkA y.A = some t → (setAll w g (j * 15) (Cells.cells x)).heap[t]? = w.heap[t]? := fun t ht => off t fun e => h.apart.front i y hy t ht (by rw [e]; rfl)
        exact ⟨l1, l2.same o (Nat.le_of_eq hz.symm), l3.heap o (Nat.le_of_eq hz.symm), l4⟩
  · rcases getElem?_put hy with ⟨rfl, rfl⟩ | ⟨_, hy⟩
    · rcases getElem?_put hz' with ⟨rfl, _⟩ | ⟨_, hz'⟩
      · exact hne rfl
      · exact hf t ht (.inr ⟨k, z, hz', ht2⟩)
    · rcases getElem?_put hz' with ⟨rfl, rfl⟩ | ⟨_, hz'⟩
      · exact hf t ht2 (.inr ⟨i, y, hy, ht⟩)
      · exact h.apart.logs i k y z hy hz' hne t ht ht2
  · rcases getElem?_put hy with ⟨rfl, rfl⟩ | ⟨_, hy⟩
    · exact hf t ht (.inl ht2)
    · exact h.apart.front i y hy t ht ht2
theorem foot_put {A : Option Addr} {j k : Nat} {x : SeatH} (h : FootS A (hs.set j x) k) : FootS A hs k ∨ blkA x.A = some k := by
  rcases h with h | ⟨i, y, hy, h⟩
  · exact .inl (.inl h)
  · rcases getElem?_put hy with ⟨_, rfl⟩ | ⟨_, hy⟩
    · exact .inr h
    · exact .inl (.inr ⟨i, y, hy, h⟩)
/-- One seat of an inn is stored, with a log that was made since. -/
theorem HeldI.put {M : Option Addr} {nm cm c B : Nat} {zs : List Int} {T : TypeId} (h : HeldI w base ⟨M, nm, cm, some ⟨g, 0, none⟩, n, c, hs⟩ zs ss) {j : Nat} (hj : j < n) (x : SeatH) (q : SeatL) (e1 : x.s = q.s) (o : OutE w B T x.A x.n x.c q.l)
    (hB : ∀ t, FootI ⟨M, nm, cm, some ⟨g, 0, none⟩, n, c, hs⟩ t → t < B) (hb : base ≤ B) : HeldI (setAll w g (j * 15) (Cells.cells x)) base ⟨M, nm, cm, some ⟨g, 0, none⟩, n, c, hs.set j x⟩ zs (ss.set j q) := by
  obtain ⟨o1, o2, o3⟩ := o.held
  have hx : ∀ t, blkA x.A = some t → ¬ FootI ⟨M, nm, cm, some ⟨g, 0, none⟩, n, c, hs⟩ t := fun t ht hf => by
    have h1 := hB t hf
    have h2 := (o.lt ht).1
    omega
  refine ⟨h.mem.heap fun t e => setAll_off (fun e2 => h.apart t e (.inl (by rw [e2]; rfl))) _ _, h.seats.put hj x q e1 o2 (o1.mono hb) o3 fun t ht hf => hx t ht (.inr hf), fun t ht hf => ?_⟩
  rcases foot_put hf with hf | hf
  · exact h.apart t ht hf
  · exact hx t hf (.inl ht)
end

end Go.Proofs.YtioogmeghmeelaaGreat.Tx
