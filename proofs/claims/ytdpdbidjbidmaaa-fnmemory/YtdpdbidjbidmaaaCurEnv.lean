/-
  A region of a draw: its callees move the cursor and make memory. No conditions. Nothing of the program is named here, but the cursor's type.
-/
import Derived.Test.YtdpdbidjbidmaaaCurNew
import Derived.Test.YtdpdbidjbidmaaaFacts
import Derived.Test.YtdpdbidjbidmaaaRegionO
namespace Go.Proofs.Ytdpdbidjbidmaaa.Tx
open Go Go.RowKit

/-- The cursor lies in block g, and nothing else that lay is turned but the blocks L. -/
def curEnv (W : World) (L : List Nat) (g : Nat) (A : Option Addr) (n cap : Nat) (hL : g ∉ L) (hc : ∃ i h, Cur W g A n cap i h) {B : Nat} (hB : BytesAt W B A n) (hBg : B ≤ g) (hLB : ∀ k ∈ L, B ≤ k) : Env where
  C w := KeptBut (g :: L) W w ∧ ∃ i h, Cur w g A n cap i h
  T w w' := w.grownBy w' (some g) ∧ ∃ i h, Cur w' g A n cap i h
  mine k := W.heap.size ≤ k ∨ k ∈ L
  go {w w'} h b := ⟨⟨b.1.os.trans h.1.os, b.1.tape.trans h.1.tape, b.1.output.trans h.1.output, Nat.le_trans h.1.size b.1.size, fun k hk hn => (b.1.block k (Nat.lt_of_lt_of_le hk h.1.size) (fun e => hn (by rw [Option.some.inj e]; exact List.mem_cons_self))).trans (h.1.block k hk hn)⟩, b.2⟩
  new o h := ⟨World.grownBy_alloc _ o _, let ⟨i, h', c⟩ := h.2; ⟨i, h', c.alloc o⟩⟩
  size b := b.1.size
  blk {w w' k o} _ b hg h := (b.1.block k (Array.getElem?_eq_some_iff.1 h).1 (by
    intro e
    have e1 := Option.some.inj e
    obtain ⟨i, h', c⟩ := hc
    have := c.lt
    rcases hg with hg | hg
    · omega
    · exact hL (e1 ▸ hg))).trans h
  lim := W.heap.size
  lo h := h.1.size
  own h := .inl h
  free {w w'} h h1 h2 h3 h4 h5 := by
    obtain ⟨hk, i2, h2', c2⟩ := h
    have hkb : KeptBut (g :: L) W w' := ⟨h1.trans hk.os, h2.trans hk.tape, h3.trans hk.output, Nat.le_trans hk.size h4, fun k hlt hn => (h5 k (fun hm => hm.elim (fun h => by omega) (fun h => hn (List.mem_cons_of_mem _ h)))).trans (hk.block k hlt hn)⟩
    refine ⟨hkb, i2, h2', ?_⟩
    have hgm : w'.heap[g]? = w.heap[g]? := h5 g (fun hm => hm.elim (fun h => by obtain ⟨_, _, c⟩ := hc; have := c.lt; omega) hL)
    refine ⟨hgm.trans c2.blk, c2.lo, c2.hi, fun hn => ?_⟩
    obtain ⟨b, off, e, hlt, hcell⟩ := hB hn
    refine ⟨b, off, e, by omega, fun j hj => ?_⟩
    obtain ⟨x, h0, h1, hx⟩ := hcell j hj
    refine ⟨x, h0, h1, ?_⟩
    have hbl : b < W.heap.size := World.block_lt_of_cell? W ⟨b, off + j, none⟩ hx
    have hne : b ∉ g :: L := fun hm => by
      rcases List.mem_cons.1 hm with h | h
      · omega
      · have := hLB b h; omega
    exact (World.cell?_of_block (w := W) (hkb.block b hbl hne)).trans hx
  some := ⟨W, KeptBut.refl _ W, hc⟩
theorem BytesAt.below {w w' : World} {B : Nat} {A : Option Addr} {n : Nat} (h : BytesAt w B A n) (k : Below B w w') : BytesAt w' B A n := fun hn => by
  obtain ⟨b, off, e, hlt, hc⟩ := h hn
  exact ⟨b, off, e, hlt, fun j hj => by
    obtain ⟨x, h0, h1, hx⟩ := hc j hj
    exact ⟨x, h0, h1, (k.cell (p := ⟨b, off + j, none⟩) hlt).trans hx⟩⟩
theorem BytesAt.up {w : World} {B B' : Nat} {A : Option Addr} {n : Nat} (h : BytesAt w B A n) (hB : B ≤ B') : BytesAt w B' A n := fun hn => by
  obtain ⟨b, off, e, hlt, hc⟩ := h hn
  exact ⟨b, off, e, by omega, hc⟩
theorem KeptBut.only {g : Nat} {W w : World} (h : KeptBut [g] W w) : W.grownBy w (some g) := ⟨h.os, h.tape, h.output, h.size, fun k hk hn => h.block k hk (fun hm => hn (by rw [List.mem_singleton.1 hm]))⟩
theorem Cur.drew {w : World} {g : Nat} {A : Option Addr} {n cap : Nat} {i h : Int} (c : Cur w g A n cap i h) : Cur { w with drawn := w.drawn + 1 } g A n cap i h := c.drewN 1
section
variable {W : World} {L : List Nat} {g : Nat} {A : Option Addr} {n cap : Nat} {hL : g ∉ L} {hc : ∃ i h, Cur W g A n cap i h} {B : Nat} {hB : BytesAt W B A n} {hBg : B ≤ g} {hLB : ∀ k ∈ L, B ≤ k}
theorem In.blkc (q : In (curEnv W L g A n cap hL hc hB hBg hLB)) {b : Nat} {o : Obj} (h : W.heap[b]? = some o) (hn : b ∉ g :: L) : q.w.heap[b]? = some o := q.hc.1.blk h hn
/-- A draw's own contract, as the walk wants it. -/
theorem cur_calls {P : Program} {f : FuncId} {args : Array Value} {w : World} {v : Value → Prop} (h : ∀ i h, Cur w g A n cap i h → Calls P f args w fun e w' => ∃ x i' h', v x ∧ e = .returned x ∧ Cur w' g A n cap i' h' ∧ w.grownBy w' (some g)) (hw : (curEnv W L g A n cap hL hc hB hBg hLB).C w) :
    Calls P f args w fun e w' => ∃ x : { x : Value // v x }, e = .returned x.1 ∧ True ∧ (curEnv W L g A n cap hL hc hB hBg hLB).T w w' ∧ ∀ k ∈ ([] : List Nat), w.heap.size ≤ k ∧ k < w'.heap.size := by
  obtain ⟨_, i, h', c⟩ := hw
  exact (h i h' c).mono fun e w' ⟨x, i1, h1, hv, he, c1, b1⟩ => ⟨⟨x, hv⟩, he, trivial, ⟨b1, i1, h1, c1⟩, fun k hk => by cases hk⟩
end
/-- One walk in the text's order serves every order, in a draw. -/
theorem wp_region_cur {P : Program} {W : World} (L : List Nat) {g : Nat} {A : Option Addr} {n cap : Nat} {i h : Int} (hL : g ∉ L) (c : Cur W g A n cap i h) {B : Nat} (hB : BytesAt W B A n) (hBg : B ≤ g) (hLB : ∀ k ∈ L, B ≤ k) {id : Nat} {Q' : Exit → Act → World → Prop} {a : Act} {l : List Oper}
    (F0 : World → Prop) (hS : Stays (curEnv W L g A n cap hL ⟨i, h, c⟩ hB hBg hLB) F0) (hF : F0 { W with drawn := W.drawn + 1 }) (kl : List Nat) (hm : P.follows .mixedOrders = true) (hs : Region.noSelect l.toArray = true)
    (hX : lexO .any l.toArray kl.toArray l.length 0 (Array.replicate l.length false) = true)
    (hh : wpO P l.toArray (curEnv W L g A n cap hL ⟨i, h, c⟩ hB hBg hLB) (fun a' w' => Q' .normal a' w') kl l [] F0 a) : (Code.region id l.toArray true).wp P Q' a W :=
  wp_region_env (E := curEnv W L g A n cap hL ⟨i, h, c⟩ hB hBg hLB) F0 hS kl ⟨(KeptBut.refl _ W).drew, i, h, c.drew⟩ hF hm hs hX hh

/-- One walk in an order of one's own serves every order, in a draw. -/
theorem wp_region_curp {P : Program} {W : World} (L : List Nat) {g : Nat} {A : Option Addr} {n cap : Nat} {i h : Int} (hL : g ∉ L) (c : Cur W g A n cap i h) {B : Nat} (hB : BytesAt W B A n) (hBg : B ≤ g) (hLB : ∀ k ∈ L, B ≤ k) {id : Nat} {Q' : Exit → Act → World → Prop} {a : Act} {l : List Oper}
    (F0 : World → Prop) (hS : Stays (curEnv W L g A n cap hL ⟨i, h, c⟩ hB hBg hLB) F0) (hF : F0 { W with drawn := W.drawn + 1 }) (kl ord : List Nat) (hm : P.follows .mixedOrders = true) (hs : Region.noSelect l.toArray = true)
    (hX : (ord.length == l.length && (ord.all (· < l.length) && permO .any l.toArray kl.toArray ord (Array.replicate l.length false))) = true)
    (hh : wpO P l.toArray (curEnv W L g A n cap hL ⟨i, h, c⟩ hB hBg hLB) (fun a' w' => Q' .normal a' w') (ord.map fun k => kl.getD k 0) (ord.filterMap fun k => l[k]?) [] F0 a) : (Code.region id l.toArray true).wp P Q' a W :=
  wp_region_envp (E := curEnv W L g A n cap hL ⟨i, h, c⟩ hB hBg hLB) F0 hS kl ord ⟨(KeptBut.refl _ W).drew, i, h, c.drew⟩ hF hm hs hX hh

end Go.Proofs.Ytdpdbidjbidmaaa.Tx
