/-
  What the model draws for chapter 1: a string of at most 13 bytes; a list of at most 5 such strings in new memory; nothing that lay is written. Condition: the draw's code has at most 4096 bytes.
  A region of a draw: its callees move the cursor and make memory. No conditions. Nothing of the program is named here, but the cursor's type.
  What the model draws for chapter 5: a row, a text, a box, lists of these. Condition: the draw's code has at most 4096 bytes.
-/
import Derived.Test.YtchdmmlkgglmcaaDoorCurNew
import Derived.Test.YtchdmmlkgglmcaaDoorLists
import Derived.Test.YtchdmmlkgglmcaaDoorDraw1t
import Derived.Test.YtchdmmlkgglmcaaDoorFacts
import Derived.Test.YtchdmmlkgglmcaaDoorOffs
import Derived.Test.YtchdmmlkgglmcaaDoorRegionO
import Derived.Test.YtchdmmlkgglmcaaDoorDraw4
import Derived.Test.YtchdmmlkgglmcaaDoorRowAll
namespace Go.Proofs.YtchdmmlkgglmcaaDoor.Tx
open Go.RowKit



/-- A list of strings that the call made: its value, its block, what it holds. -/
structure Made (w : World) (base : Nat) (ss : List ByteArray) (gb cb : Nat) : Prop where
  own : w.ownsRow base 9 1 (.slice (some ⟨gb, 0, none⟩) ss.length cb) ss.length (ss.map Value.string)
  small : ∀ s ∈ ss, s.size ≤ 13
theorem Made.base {w : World} {base : Nat} {ss : List ByteArray} {gb cb : Nat} (h : Made w base ss gb cb) : base ≤ gb ∧ gb < w.heap.size := h.own.lt gb rfl
theorem Made.kept {w w' : World} {base : Nat} {ss : List ByteArray} {gb cb : Nat} {row : Option Nat} (h : Made w base ss gb cb) (hg : w.grownBy w' row) (hne : some gb ≠ row) : Made w' base ss gb cb := ⟨h.own.kept hg (.inr hne), h.small⟩
theorem Made.alloc {w : World} {base : Nat} {ss : List ByteArray} {gb cb : Nat} (h : Made w base ss gb cb) (o : Obj) : Made (w.alloc o) base ss gb cb := ⟨h.own.alloc o, h.small⟩
theorem Made.cap {w : World} {base : Nat} {ss : List ByteArray} {gb cb : Nat} (h : Made w base ss gb cb) : ss.length ≤ cb ∧ cb ≤ maxLen := by
  rcases h.own.2 with ⟨e, _⟩ | ⟨g, cap, cur, e, _, _, h1, h2, _⟩
  · cases e
  · cases e; exact ⟨h1, h2⟩
theorem Made.strs {w : World} {base : Nat} {ss : List ByteArray} {gb cb : Nat} (h : Made w base ss gb cb) : Strs w w.heap.size (some ⟨gb, 0, none⟩) ss.length ss :=
  ⟨rfl, fun _ => ⟨gb, 0, rfl, h.base.2, fun j hj => by
    rw [Nat.zero_add, h.own.cellAt j (by omega), List.getElem?_map, List.getElem?_eq_getElem hj]
    rfl⟩⟩
theorem sumB_small (ss : List ByteArray) (h : ∀ s ∈ ss, s.size ≤ 13) : sumB ss ≤ 13 * ss.length := by
  induction ss with
  | nil => simp [sumB]
  | cons s r ih =>
    have h1 := h s (by simp)
    have h2 := ih (fun t ht => h t (by simp [ht]))
    have e : sumB (s :: r) = s.size + sumB r := by simp [sumB]
    rw [e, List.length_cons]
    omega
theorem Made.snoc {w : World} {base : Nat} {ss : List ByteArray} {s : ByteArray} {v : Value} (h : w.ownsRow base 9 1 v (ss.length + 1) (ss.map Value.string ++ [.string s])) (hs : ∀ t ∈ ss, t.size ≤ 13) (h1 : s.size ≤ 13) :
    ∃ gb cb, v = .slice (some ⟨gb, 0, none⟩) (ss.length + 1) cb ∧ Made w base (ss ++ [s]) gb cb := by
  obtain ⟨gb, cb, rfl, _, _⟩ := h.form (by omega)
  refine ⟨gb, cb, rfl, ?_, ?_⟩
  · rw [List.length_append, List.map_append]
    exact h
  · intro t ht
    rcases List.mem_append.1 ht with ht | ht
    · exact hs t ht
    · simp at ht; subst ht; exact h1
/-- What a draw of a list leaves. -/
def ListOut (m : Nat) (w : World) (g : Nat) (A : Option Addr) (n cap : Nat) (e : Ending) (w' : World) : Prop :=
  ∃ (ss : List ByteArray) (gb cb : Nat) (i h : Int), ss.length ≤ m ∧ e = .returned (.slice (some ⟨gb, 0, none⟩) ss.length cb) ∧ Made w' w.heap.size ss gb cb ∧ Cur w' g A n cap i h ∧ w.grownBy w' (some g)

/-- What holds at the head of l1DrawList's loop. -/
def DL (w : World) (g : Nat) (A : Option Addr) (n cap : Nat) (k : Nat) (v : Value) (wr : World) : Prop :=
  ∃ (ss : List ByteArray) (gb cb : Nat) (i h : Int), ss.length + k ≤ 5 ∧ v = .slice (some ⟨gb, 0, none⟩) ss.length cb ∧ Made wr w.heap.size ss gb cb ∧ Cur wr g A n cap i h ∧ w.grownBy wr (some g)

set_option maxHeartbeats 1000000 in
theorem l1DrawList_any (w : World) (g : Nat) (A : Option Addr) (n cap : Nat) (i h : Int) (hn : n ≤ 4096) (c : Cur w g A n cap i h) :
    Calls Tryd.prog 35 #[.pointer (some ⟨g, 0, none⟩)] w (ListOut 5 w g A n cap) := by
  obtain ⟨i0, hi, hz0, hz1, hz2⟩ := info_parts infoString
  have C := Lib.hid c
  have hg := c.lt
  clear c
  go_enter Tryd.func35, Tryd.ntmps35
  go_wp2_with fail
  refine (l1Below_any _ g A n cap i h 6 hn (by omega) (by omega) (C.out.alloc _)).mono ?_
  rintro e w1 ⟨x, i1, g1, ⟨hx0, hx1⟩, rfl, c1, b1⟩
  obtain ⟨k0, rfl⟩ := Int.eq_ofNat_of_zero_le hx0
  have M1 : Hid (DL w g A n cap k0 (.slice (some ⟨w.heap.size, 0, none⟩) 0 0) w1) := by
    have hm : Made (w.alloc (.cells #[] 9)) w.heap.size [] w.heap.size 0 := ⟨World.ownsRow_made w #[] 0 (Nat.le_refl _) (Nat.zero_le _) rfl, by simp⟩
    exact ⟨[], w.heap.size, 0, i1, g1, by simp; omega, rfl, hm.kept b1 (by intro e; injection e with e; omega), c1, only_trans (World.grownBy_alloc w _ (some g)) b1⟩
  clear c1 b1
  go_wp2
  go_loopw [3, 4] (fun v nn wr => ∃ k : Nat, nn = .int .i64 k ∧ k ≤ 5 ∧ DL w g A n cap k v wr) (fun _ nn _ => (intOf nn).toNat)
  case atStart => exact ⟨k0, rfl, by omega, M1.out⟩
  case round =>
    obtain ⟨k, rfl, hk5, ss, gb, cb, i2, h2, hlen, rfl, hM, hC, hG⟩ := hrel
    have HM := Lib.hid hM
    have HC := Lib.hid hC
    have HG := Lib.hid hG
    have hbase := hM.base
    obtain ⟨hb1, hb2⟩ := hbase
    clear hM hC hG
    by_cases hk : 0 < k
    · go_wp2_with fail
      refine (l1DrawText_any _ g A n cap i2 h2 hn HC.out).mono ?_
      rintro e w2 ⟨s, i3, h3, hsz, rfl, c3, b3⟩
      have HM3 := Lib.hid (HM.out.kept b3 (by intro e; injection e with e; omega))
      have HC3 := Lib.hid c3
      have HG3 := Lib.hid (only_trans HG.out b3)
      have hs3 := HG3.out.size
      clear c3 b3
      go_wp2_with (at_builtin; refine wpList_append_own _ rfl _ _ 36 rfl w.heap.size 9 i0 (.string ByteArray.empty) 1 16 Tryd.underlying36 hi hz0 hz1 hz2 rfl (by decide) _ _ _ rfl (HM3.out.own.alloc _) ⟨w2.heap.size, 0, none⟩ 1 1 [.string s] rfl rfl (cell_one_new _ _ _) (by simp [Value.oneCell']) (by unfold maxLen; omega) (by omega) (by simp; omega) ?_; intro v' w3 hown' hgrow _; obtain ⟨gb', cb', rfl, hM'⟩ := Made.snoc hown' HM3.out.small (by omega); have HM' := Lib.hid hM'; have HGR := Lib.hid hgrow; clear hown' hgrow hM')
      go_roundw
      case rel =>
        refine ⟨k - 1, by go_num, by omega, ss ++ [s], gb', cb', i3, h3, by simp; omega, by simp, HM'.out, ?_, ?_⟩
        · exact (HC3.out.alloc _).far (gb := gb) HGR.out (by omega)
        · exact only_own (only_alloc HG3.out _) HGR.out hb1
      case measure => simp [intOf]; omega
    · go_wp2
      go_ret
      exact ⟨ss, gb, cb, i2, h2, by omega, rfl, HM.out, HC.out, HG.out⟩

theorem Made.mono {w : World} {base base' : Nat} {ss : List ByteArray} {gb cb : Nat} (h : Made w base ss gb cb) (hb : base' ≤ base) : Made w base' ss gb cb := by
  refine ⟨⟨h.own.1, ?_⟩, h.small⟩
  rcases h.own.2 with h2 | ⟨g, cap, cur, hv, hg, r⟩
  · exact .inl h2
  · exact .inr ⟨g, cap, cur, hv, Nat.le_trans hb hg, r⟩



end Go.Proofs.YtchdmmlkgglmcaaDoor.Tx
namespace Go.Proofs.YtchdmmlkgglmcaaDoor.Tx
open Go Go.RowKit

/-- The cursor lies in block g, and nothing else that lay is turned but the blocks L. -/
def curEnv (W : World) (L : List Nat) (g : Nat) (A : Option Addr) (n cap : Nat) (hL : g ∉ L) (hc : ∃ i h, Cur W g A n cap i h) {B : Nat} (hB : BytesAt W B A n) (hBg : B ≤ g) (hLB : ∀ k ∈ L, B ≤ k) : Env where
  C w := KeptBut (g :: L) W w ∧ ∃ i h, Cur w g A n cap i h
  T w w' := w.grownBy w' (some g) ∧ ∃ i h, Cur w' g A n cap i h
  mine k := W.heap.size ≤ k ∨ k ∈ L
  go {w w'} h b := ⟨⟨b.1.os.trans h.1.os, b.1.tape.trans h.1.tape, b.1.output.trans h.1.output, Nat.le_trans h.1.size b.1.size, fun k hk hn => (b.1.block k (Nat.lt_of_lt_of_le hk h.1.size) (fun e => hn (by rw [Option.some.inj e]; exact List.mem_cons_self))).trans (h.1.block k hk hn)⟩, b.2⟩
  new o h := ⟨World.grownBy_alloc _ o _, let ⟨i, h', c⟩ := h.2; ⟨i, h', c.alloc o⟩⟩
  size b := b.1.size
  blk {w w' k o} _ b hg h := (b.1.block k (Array.getElem?_eq_some_iff.1 h).1 (by
    intro e
    have e1 := Option.some.inj e
    obtain ⟨i, h', c⟩ := hc
    have := c.lt
    rcases hg with hg | hg
    · omega
    · exact hL (e1 ▸ hg))).trans h
  lim := W.heap.size
  lo h := h.1.size
  own h := .inl h
  free {w w'} h h1 h2 h3 h4 h5 := by
    obtain ⟨hk, i2, h2', c2⟩ := h
    have hkb : KeptBut (g :: L) W w' := ⟨h1.trans hk.os, h2.trans hk.tape, h3.trans hk.output, Nat.le_trans hk.size h4, fun k hlt hn => (h5 k (fun hm => hm.elim (fun h => by omega) (fun h => hn (List.mem_cons_of_mem _ h)))).trans (hk.block k hlt hn)⟩
    refine ⟨hkb, i2, h2', ?_⟩
    have hgm : w'.heap[g]? = w.heap[g]? := h5 g (fun hm => hm.elim (fun h => by obtain ⟨_, _, c⟩ := hc; have := c.lt; omega) hL)
    refine ⟨hgm.trans c2.blk, c2.lo, c2.hi, fun hn => ?_⟩
    obtain ⟨b, off, e, hlt, hcell⟩ := hB hn
    refine ⟨b, off, e, by omega, fun j hj => ?_⟩
    obtain ⟨x, h0, h1, hx⟩ := hcell j hj
    refine ⟨x, h0, h1, ?_⟩
    have hbl : b < W.heap.size := World.block_lt_of_cell? W ⟨b, off + j, none⟩ hx
    have hne : b ∉ g :: L := fun hm => by
      rcases List.mem_cons.1 hm with h | h
      · omega
      · have := hLB b h; omega
    exact (World.cell?_of_block (w := W) (hkb.block b hbl hne)).trans hx
  some := ⟨W, KeptBut.refl _ W, hc⟩
theorem KeptBut.only {g : Nat} {W w : World} (h : KeptBut [g] W w) : W.grownBy w (some g) := ⟨h.os, h.tape, h.output, h.size, fun k hk hn => h.block k hk (fun hm => hn (by rw [List.mem_singleton.1 hm]))⟩
theorem Cur.drew {w : World} {g : Nat} {A : Option Addr} {n cap : Nat} {i h : Int} (c : Cur w g A n cap i h) : Cur { w with drawn := w.drawn + 1 } g A n cap i h := c.drewN 1
section
variable {W : World} {L : List Nat} {g : Nat} {A : Option Addr} {n cap : Nat} {hL : g ∉ L} {hc : ∃ i h, Cur W g A n cap i h} {B : Nat} {hB : BytesAt W B A n} {hBg : B ≤ g} {hLB : ∀ k ∈ L, B ≤ k}
theorem In.blkc (q : In (curEnv W L g A n cap hL hc hB hBg hLB)) {b : Nat} {o : Obj} (h : W.heap[b]? = some o) (hn : b ∉ g :: L) : q.w.heap[b]? = some o := q.hc.1.blk h hn
/-- A draw's own contract, as the walk wants it. -/
theorem cur_calls {P : Program} {f : FuncId} {args : Array Value} {w : World} {v : Value → Prop} (h : ∀ i h, Cur w g A n cap i h → Calls P f args w fun e w' => ∃ x i' h', v x ∧ e = .returned x ∧ Cur w' g A n cap i' h' ∧ w.grownBy w' (some g)) (hw : (curEnv W L g A n cap hL hc hB hBg hLB).C w) :
    Calls P f args w fun e w' => ∃ x : { x : Value // v x }, e = .returned x.1 ∧ True ∧ (curEnv W L g A n cap hL hc hB hBg hLB).T w w' ∧ ∀ k ∈ ([] : List Nat), w.heap.size ≤ k ∧ k < w'.heap.size := by
  obtain ⟨_, i, h', c⟩ := hw
  exact (h i h' c).mono fun e w' ⟨x, i1, h1, hv, he, c1, b1⟩ => ⟨⟨x, hv⟩, he, trivial, ⟨b1, i1, h1, c1⟩, fun k hk => by cases hk⟩
end
/-- One walk in the text's order serves every order, in a draw. -/
theorem wp_region_cur {P : Program} {W : World} (L : List Nat) {g : Nat} {A : Option Addr} {n cap : Nat} {i h : Int} (hL : g ∉ L) (c : Cur W g A n cap i h) {B : Nat} (hB : BytesAt W B A n) (hBg : B ≤ g) (hLB : ∀ k ∈ L, B ≤ k) {id : Nat} {Q' : Exit → Act → World → Prop} {a : Act} {l : List Oper}
    (F0 : World → Prop) (hS : Stays (curEnv W L g A n cap hL ⟨i, h, c⟩ hB hBg hLB) F0) (hF : F0 { W with drawn := W.drawn + 1 }) (kl : List Nat) (hm : P.follows .mixedOrders = true) (hs : Region.noSelect l.toArray = true)
    (hX : lexO .any l.toArray kl.toArray l.length 0 (Array.replicate l.length false) = true)
    (hh : wpO P l.toArray (curEnv W L g A n cap hL ⟨i, h, c⟩ hB hBg hLB) (fun a' w' => Q' .normal a' w') kl l [] F0 a) : (Code.region id l.toArray true).wp P Q' a W :=
  wp_region_env (E := curEnv W L g A n cap hL ⟨i, h, c⟩ hB hBg hLB) F0 hS kl ⟨(KeptBut.refl _ W).drew, i, h, c.drew⟩ hF hm hs hX hh

/-- One walk in an order of one's own serves every order, in a draw. -/
theorem wp_region_curp {P : Program} {W : World} (L : List Nat) {g : Nat} {A : Option Addr} {n cap : Nat} {i h : Int} (hL : g ∉ L) (c : Cur W g A n cap i h) {B : Nat} (hB : BytesAt W B A n) (hBg : B ≤ g) (hLB : ∀ k ∈ L, B ≤ k) {id : Nat} {Q' : Exit → Act → World → Prop} {a : Act} {l : List Oper}
    (F0 : World → Prop) (hS : Stays (curEnv W L g A n cap hL ⟨i, h, c⟩ hB hBg hLB) F0) (hF : F0 { W with drawn := W.drawn + 1 }) (kl ord : List Nat) (hm : P.follows .mixedOrders = true) (hs : Region.noSelect l.toArray = true)
    (hX : (ord.length == l.length && (ord.all (· < l.length) && permO .any l.toArray kl.toArray ord (Array.replicate l.length false))) = true)
    (hh : wpO P l.toArray (curEnv W L g A n cap hL ⟨i, h, c⟩ hB hBg hLB) (fun a' w' => Q' .normal a' w') (ord.map fun k => kl.getD k 0) (ord.filterMap fun k => l[k]?) [] F0 a) : (Code.region id l.toArray true).wp P Q' a W :=
  wp_region_envp (E := curEnv W L g A n cap hL ⟨i, h, c⟩ hB hBg hLB) F0 hS kl ord ⟨(KeptBut.refl _ W).drew, i, h, c.drew⟩ hF hm hs hX hh

end Go.Proofs.YtchdmmlkgglmcaaDoor.Tx
namespace Go.Proofs.YtchdmmlkgglmcaaDoor.Tx
open Go.RowKit

/-- What a draw of a row leaves. -/
def RowOut (w : World) (g : Nat) (A : Option Addr) (n cap : Nat) (e : Ending) (w' : World) : Prop :=
  ∃ (r : RowV) (i h : Int), e = .returned r.val ∧ Cur w' g A n cap i h ∧ w.grownBy w' (some g)

/-- What DrawPut leaves. -/
def PutIn (w : World) (e : Ending) (w' : World) : Prop := ∃ (r : RowV) (t : ByteArray), e = .returned (.tuple #[r.val, .string t]) ∧ Below w.heap.size w w'
/-- What DrawTake leaves. -/
def TakeIn (w : World) (e : Ending) (w' : World) : Prop := ∃ (r : RowV) (b : BoxV), e = .returned (.tuple #[r.val, b.val]) ∧ Below w.heap.size w w'
/-- What DrawTakeAll leaves. -/
def TakeAllIn (w : World) (e : Ending) (w' : World) : Prop := ∃ (r : RowV) (bs : List BoxV) (gb cb : Nat), bs.length ≤ 7 ∧ e = .returned (.tuple #[r.val, .slice (some ⟨gb, 0, none⟩) bs.length cb]) ∧ MadeB w' w.heap.size bs gb cb ∧ Below w.heap.size w w'
/-- What holds at the head of DrawTakeAll's loop. -/
def TakeDraw (w : World) (g base kb : Nat) (r : RowV) (A : Option Addr) (n cap : Nat) (m : Nat) (v : Value) (wr : World) : Prop :=
  ∃ (bs : List BoxV) (gb cb : Nat) (i h : Int), v = .slice (some ⟨gb, 0, none⟩) bs.length cb ∧ bs.length + m ≤ 7 ∧ MadeB wr base bs gb cb ∧ Cur wr g A n cap i h ∧
    wr.heap[w.heap.size]? = some (.cells RowV.zero.cells.toArray 29) ∧ wr.heap[kb]? = some (.cells r.cells.toArray 29) ∧ Below w.heap.size w wr
theorem cells_one (b : BoxV) (u : Value) (h : u ∈ b.cells) : u.oneCell' = true := by
  simp only [BoxV.cells, List.mem_cons, List.not_mem_nil, or_false] at h
  rcases h with rfl | rfl | rfl | rfl | rfl | rfl | rfl <;> rfl
/-- What DrawPutAll leaves. -/
def PutAllIn (w : World) (e : Ending) (w' : World) : Prop := ∃ (r : RowV) (ss : List ByteArray) (gb cb : Nat), ss.length ≤ 5 ∧ e = .returned (.tuple #[r.val, .slice (some ⟨gb, 0, none⟩) ss.length cb]) ∧ MadeS w' w.heap.size ss gb cb ∧ Below w.heap.size w w'

end Go.Proofs.YtchdmmlkgglmcaaDoor.Tx
