/-
  What the model draws for chapter 1: a string of at most 13 bytes; a list of at most 5 such strings in new memory; nothing that lay is written. Condition: the draw's code has at most 4096 bytes.
-/
import Derived.Test.YtjgkhjdndeiidaaCur
import Derived.Test.YtjgkhjdndeiidaaLists
namespace Go.Proofs.Ytjgkhjdndeiidaa.Tx
open Go.RowKit

theorem and30 (x : Int) : 0 ≤ bits .and .i64 x 1073741823 ∧ bits .and .i64 x 1073741823 ≤ 1073741823 := by
  have h : bits .and .i64 x 1073741823 = IntKind.i64.wrap ((BitVec.ofInt 64 x &&& BitVec.ofInt 64 1073741823).toNat : Int) := rfl
  rw [h, BitVec.toNat_and, IntKind.wrap_i64]
  have : (BitVec.ofInt 64 x).toNat &&& (BitVec.ofInt 64 1073741823).toNat ≤ (BitVec.ofInt 64 1073741823).toNat := Nat.and_le_right
  have e : (BitVec.ofInt 64 1073741823).toNat = 1073741823 := by decide
  rw [e] at this ⊢
  omega

/-- What l1New leaves: a new cursor at the beginning. -/
def NewOut (w : World) (A : Option Addr) (n cap : Nat) (e : Ending) (w' : World) : Prop :=
  e = .returned (.pointer (some ⟨w.heap.size, 0, none⟩)) ∧ ∃ h, Cur w' w.heap.size A n cap 0 h ∧ Below w.heap.size w w'

theorem BytesAt.alloc {w : World} {A : Option Addr} {n : Nat} (h : BytesAt w w.heap.size A n) (o : Obj) : BytesAt (w.alloc o) w.heap.size A n := fun hn => by
  obtain ⟨b, off, e, hb, hc⟩ := h hn
  exact ⟨b, off, e, hb, fun j hj => by
    obtain ⟨x, h0, h1, hx⟩ := hc j hj
    exact ⟨x, h0, h1, (World.cell?_alloc_lt w o ⟨b, off + j, none⟩ hb).trans hx⟩⟩
theorem BytesAt.kept {w w' : World} {A : Option Addr} {n : Nat} (h : BytesAt w w.heap.size A n) (k : Below w.heap.size w w') : BytesAt w' w'.heap.size A n := fun hn => by
  obtain ⟨b, off, e, hb, hc⟩ := h hn
  exact ⟨b, off, e, Nat.lt_of_lt_of_le hb k.size, fun j hj => by
    obtain ⟨x, h0, h1, hx⟩ := hc j hj
    exact ⟨x, h0, h1, (k.cell (p := ⟨b, off + j, none⟩) hb).trans hx⟩⟩

set_option maxRecDepth 100000 in
set_option maxHeartbeats 1000000 in
theorem l1New_any (w : World) (A : Option Addr) (n cap : Nat) (hn : n ≤ 4096) (hb : BytesAt w w.heap.size A n) :
    Calls Try.prog 25 #[.slice A n cap] w (NewOut w A n cap) := by
  have HB := Lib.hid hb
  clear hb
  go_enter Try.func25, Try.ntmps25
  go_wp2
  go_loop [3, 4] (fun h i => ∃ (k : Nat) (x : Int), k ≤ n ∧ i = .int .i64 k ∧ h = .int .i64 x ∧ 0 ≤ x ∧ x ≤ 1073741823) (fun _ i => n - (intOf i).toNat)
  case atStart => exact ⟨0, _, Nat.zero_le _, rfl, rfl, by omega, by omega⟩
  case round =>
    obtain ⟨k, x, hk, rfl, rfl, hx0, hx1⟩ := hrel
    by_cases hlt : k < n
    · obtain ⟨b, off, rfl, hlb, hc⟩ := HB.out (by omega)
      obtain ⟨z, hz0, hz1, hz⟩ := hc k hlt
      clear hc
      go_wp2
      go_round
      case rel => exact ⟨k + 1, _, by omega, by go_num, rfl, (and30 _).1, (and30 _).2⟩
      case measure => simp [intOf]; omega
    · go_wp2
      go_ret
      exact ⟨rfl, x, ⟨heap_alloc_new w _, by omega, by omega, HB.out.alloc _⟩, (Below.refl _ w).alloc (Nat.le_refl _) _⟩

/-- What a draw of a string leaves: a string of which P holds. -/
def StrOut (m : Nat) (w : World) (g : Nat) (A : Option Addr) (n cap : Nat) (e : Ending) (w' : World) : Prop :=
  ∃ (s : ByteArray) (i h : Int), s.size ≤ m ∧ e = .returned (.string s) ∧ Cur w' g A n cap i h ∧ w.grownBy w' (some g)

theorem alloc_kept {w w1 : World} {o : Obj} {g : Nat} (b : (w.alloc o).grownBy w1 (some g)) (hg : g < w.heap.size) : w1.heap[w.heap.size]? = some o :=
  (b.block w.heap.size (by simp) (by intro e; injection e with e; omega)).trans (heap_alloc_new w o)
theorem Cur.alloc {w : World} {g : Nat} {A : Option Addr} {n cap : Nat} {i h : Int} (c : Cur w g A n cap i h) (o : Obj) : Cur (w.alloc o) g A n cap i h :=
  c.below ((Below.refl (g + 1) w).alloc (by have := c.lt; omega) o)

set_option maxHeartbeats 1000000 in
theorem l1DrawText_any (w : World) (g : Nat) (A : Option Addr) (n cap : Nat) (i h : Int) (hn : n ≤ 4096) (c : Cur w g A n cap i h) :
    Calls Try.prog 30 #[.pointer (some ⟨g, 0, none⟩)] w (StrOut 12 w g A n cap) := by
  have C := Lib.hid c
  have hg := c.lt
  clear c
  go_enter Try.func30, Try.ntmps30
  go_wp2_with fail
  refine (l1Below_any _ g A n cap i h 6 hn (by omega) (by omega) (C.out.alloc _)).mono ?_
  rintro e w1 ⟨x, i1, g1, ⟨hx0, hx1⟩, rfl, c1, b1⟩
  obtain ⟨k, rfl⟩ := Int.eq_ofNat_of_zero_le hx0
  have hblk := alloc_kept b1 hg
  have hcell : ∃ s : ByteArray, w1.cell? ⟨w.heap.size, k, none⟩ = some (.string s) ∧ s.size ≤ 12 := by
    have hk : k = 0 ∨ k = 1 ∨ k = 2 ∨ k = 3 ∨ k = 4 ∨ k = 5 := by omega
    rcases hk with rfl | rfl | rfl | rfl | rfl | rfl <;> exact ⟨_, by rw [World.cell?, hblk]; rfl, by decide⟩
  obtain ⟨s, hs, hsz⟩ := hcell
  have C1 := Lib.hid c1
  have B1 := Lib.hid (only_trans (World.grownBy_alloc w _ (some g)) b1)
  clear c1 b1 hblk
  go_wp2
  go_ret
  exact ⟨s, _, _, hsz, rfl, C1.out, B1.out⟩

set_option maxHeartbeats 1000000 in
theorem l1DrawAny_any (w : World) (g : Nat) (A : Option Addr) (n cap : Nat) (i h : Int) (hn : n ≤ 4096) (c : Cur w g A n cap i h) :
    Calls Try.prog 26 #[.pointer (some ⟨g, 0, none⟩)] w (StrOut 13 w g A n cap) := by
  have C := Lib.hid c
  clear c
  go_enter Try.func26, Try.ntmps26
  go_wp2_with fail
  refine (l1Once_any _ g A n cap i h 8 hn (by omega) (by omega) C.out).mono ?_
  rintro e w0 ⟨b, i0, h0, rfl, c0, b0⟩
  have C0 := Lib.hid c0
  have B0 := Lib.hid b0
  have hg := c0.lt
  clear c0 b0
  cases b with
  | true =>
    go_wp2_with fail
    refine (l1Below_any _ g A n cap i0 h0 4 hn (by omega) (by omega) (C0.out.alloc _)).mono ?_
    rintro e w1 ⟨x, i1, g1, ⟨hx0, hx1⟩, rfl, c1, b1⟩
    obtain ⟨k, rfl⟩ := Int.eq_ofNat_of_zero_le hx0
    have hblk := alloc_kept b1 hg
    have hcell : ∃ s : ByteArray, w1.cell? ⟨w0.heap.size, k, none⟩ = some (.string s) ∧ s.size ≤ 13 := by
      have hk : k = 0 ∨ k = 1 ∨ k = 2 ∨ k = 3 := by omega
      rcases hk with rfl | rfl | rfl | rfl <;> exact ⟨_, by rw [World.cell?, hblk]; rfl, by decide⟩
    obtain ⟨s, hs, hsz⟩ := hcell
    have C1 := Lib.hid c1
    have B1 := Lib.hid (only_trans B0.out (only_trans (World.grownBy_alloc w0 _ (some g)) b1))
    clear c1 b1 hblk
    go_wp2
    go_ret
    exact ⟨s, _, _, hsz, rfl, C1.out, B1.out⟩
  | false =>
    go_wp2_with fail
    refine (l1DrawText_any _ g A n cap i0 h0 hn C0.out).mono ?_
    rintro e w1 ⟨s, i1, g1, hsz, rfl, c1, b1⟩
    have C1 := Lib.hid c1
    have B1 := Lib.hid (only_trans B0.out b1)
    clear c1 b1
    go_wp2
    go_ret
    exact ⟨s, _, _, by omega, rfl, C1.out, B1.out⟩

theorem DrawTextOk_any (w : World) (A : Option Addr) (n cap : Nat) (hn : n ≤ 4096) (hb : BytesAt w w.heap.size A n) :
    Calls Try.prog 10 #[.slice A n cap] w fun e w' => ∃ s : ByteArray, s.size ≤ 13 ∧ e = .returned (.string s) ∧ Below w.heap.size w w' := by
  have HB := Lib.hid hb
  clear hb
  go_enter Try.func10, Try.ntmps10
  go_wp2_with fail
  refine (l1New_any _ A n cap hn HB.out).mono ?_
  rintro e w0 ⟨rfl, h0, c0, b0⟩
  have C0 := Lib.hid c0
  have B0 := Lib.hid b0
  clear c0 b0
  go_wp2_with fail
  refine (l1DrawAny_any _ _ A n cap 0 h0 hn C0.out).mono ?_
  rintro e w1 ⟨s, i1, g1, hsz, rfl, c1, b1⟩
  have B1 := Lib.hid (B0.out.trans (below_of_only b1 (Nat.le_refl _) C0.out.lt))
  clear c1 b1
  go_wp2
  go_ret
  exact ⟨s, hsz, rfl, B1.out⟩

/-- A list of strings that the call made: its value, its block, what it holds. -/
structure Made (w : World) (base : Nat) (ss : List ByteArray) (gb cb : Nat) : Prop where
  own : w.ownsRow base 9 1 (.slice (some ⟨gb, 0, none⟩) ss.length cb) ss.length (ss.map Value.string)
  small : ∀ s ∈ ss, s.size ≤ 13
theorem Made.base {w : World} {base : Nat} {ss : List ByteArray} {gb cb : Nat} (h : Made w base ss gb cb) : base ≤ gb ∧ gb < w.heap.size := h.own.lt gb rfl
theorem Made.kept {w w' : World} {base : Nat} {ss : List ByteArray} {gb cb : Nat} {row : Option Nat} (h : Made w base ss gb cb) (hg : w.grownBy w' row) (hne : some gb ≠ row) : Made w' base ss gb cb := ⟨h.own.kept hg (.inr hne), h.small⟩
theorem Made.alloc {w : World} {base : Nat} {ss : List ByteArray} {gb cb : Nat} (h : Made w base ss gb cb) (o : Obj) : Made (w.alloc o) base ss gb cb := ⟨h.own.alloc o, h.small⟩
theorem Made.cap {w : World} {base : Nat} {ss : List ByteArray} {gb cb : Nat} (h : Made w base ss gb cb) : ss.length ≤ cb ∧ cb ≤ maxLen := by
  rcases h.own.2 with ⟨e, _⟩ | ⟨g, cap, cur, e, _, _, h1, h2, _⟩
  · cases e
  · cases e; exact ⟨h1, h2⟩
theorem Made.strs {w : World} {base : Nat} {ss : List ByteArray} {gb cb : Nat} (h : Made w base ss gb cb) : Strs w w.heap.size (some ⟨gb, 0, none⟩) ss.length ss :=
  ⟨rfl, fun _ => ⟨gb, 0, rfl, h.base.2, fun j hj => by
    rw [Nat.zero_add, h.own.cellAt j (by omega), List.getElem?_map, List.getElem?_eq_getElem hj]
    rfl⟩⟩
theorem sumB_small (ss : List ByteArray) (h : ∀ s ∈ ss, s.size ≤ 13) : sumB ss ≤ 13 * ss.length := by
  induction ss with
  | nil => simp [sumB]
  | cons s r ih =>
    have h1 := h s (by simp)
    have h2 := ih (fun t ht => h t (by simp [ht]))
    have e : sumB (s :: r) = s.size + sumB r := by simp [sumB]
    rw [e, List.length_cons]
    omega
theorem Made.snoc {w : World} {base : Nat} {ss : List ByteArray} {s : ByteArray} {v : Value} (h : w.ownsRow base 9 1 v (ss.length + 1) (ss.map Value.string ++ [.string s])) (hs : ∀ t ∈ ss, t.size ≤ 13) (h1 : s.size ≤ 13) :
    ∃ gb cb, v = .slice (some ⟨gb, 0, none⟩) (ss.length + 1) cb ∧ Made w base (ss ++ [s]) gb cb := by
  obtain ⟨gb, cb, rfl, _, _⟩ := h.form (by omega)
  refine ⟨gb, cb, rfl, ?_, ?_⟩
  · rw [List.length_append, List.map_append]
    exact h
  · intro t ht
    rcases List.mem_append.1 ht with ht | ht
    · exact hs t ht
    · simp at ht; subst ht; exact h1
theorem only_own {a b c : World} {g gb : Nat} (h : a.grownBy b (some g)) (k : b.grownBy c (some gb)) (hgb : a.heap.size ≤ gb) : a.grownBy c (some g) :=
  ⟨k.os.trans h.os, k.tape.trans h.tape, k.output.trans h.output, Nat.le_trans h.size k.size, fun i hi hne => (k.block i (Nat.lt_of_lt_of_le hi h.size) (by intro e; injection e with e; omega)).trans (h.block i hi hne)⟩
theorem Cur.far {w w' : World} {g gb : Nat} {A : Option Addr} {n cap : Nat} {i h : Int} (c : Cur w g A n cap i h) (k : w.grownBy w' (some gb)) (hgb : g < gb) : Cur w' g A n cap i h :=
  c.below ((Below.refl (g + 1) w).grown k (by have := c.lt; omega) (fun j e => by cases e; omega))

/-- What a draw of a list leaves. -/
def ListOut (m : Nat) (w : World) (g : Nat) (A : Option Addr) (n cap : Nat) (e : Ending) (w' : World) : Prop :=
  ∃ (ss : List ByteArray) (gb cb : Nat) (i h : Int), ss.length ≤ m ∧ e = .returned (.slice (some ⟨gb, 0, none⟩) ss.length cb) ∧ Made w' w.heap.size ss gb cb ∧ Cur w' g A n cap i h ∧ w.grownBy w' (some g)

/-- What holds at the head of l1DrawList's loop. -/
def DL (w : World) (g : Nat) (A : Option Addr) (n cap : Nat) (k : Nat) (v : Value) (wr : World) : Prop :=
  ∃ (ss : List ByteArray) (gb cb : Nat) (i h : Int), ss.length + k ≤ 5 ∧ v = .slice (some ⟨gb, 0, none⟩) ss.length cb ∧ Made wr w.heap.size ss gb cb ∧ Cur wr g A n cap i h ∧ w.grownBy wr (some g)

set_option maxHeartbeats 1000000 in
theorem l1DrawList_any (w : World) (g : Nat) (A : Option Addr) (n cap : Nat) (i h : Int) (hn : n ≤ 4096) (c : Cur w g A n cap i h) :
    Calls Try.prog 27 #[.pointer (some ⟨g, 0, none⟩)] w (ListOut 5 w g A n cap) := by
  obtain ⟨i0, hi, hz0, hz1, hz2⟩ := info_parts infoString
  have C := Lib.hid c
  have hg := c.lt
  clear c
  go_enter Try.func27, Try.ntmps27
  go_wp2_with fail
  refine (l1Below_any _ g A n cap i h 6 hn (by omega) (by omega) (C.out.alloc _)).mono ?_
  rintro e w1 ⟨x, i1, g1, ⟨hx0, hx1⟩, rfl, c1, b1⟩
  obtain ⟨k0, rfl⟩ := Int.eq_ofNat_of_zero_le hx0
  have M1 : Hid (DL w g A n cap k0 (.slice (some ⟨w.heap.size, 0, none⟩) 0 0) w1) := by
    have hm : Made (w.alloc (.cells #[] 9)) w.heap.size [] w.heap.size 0 := ⟨World.ownsRow_made w #[] 0 (Nat.le_refl _) (Nat.zero_le _) rfl, by simp⟩
    exact ⟨[], w.heap.size, 0, i1, g1, by simp; omega, rfl, hm.kept b1 (by intro e; injection e with e; omega), c1, only_trans (World.grownBy_alloc w _ (some g)) b1⟩
  clear c1 b1
  go_wp2
  go_loopw [3, 4] (fun v nn wr => ∃ k : Nat, nn = .int .i64 k ∧ k ≤ 5 ∧ DL w g A n cap k v wr) (fun _ nn _ => (intOf nn).toNat)
  case atStart => exact ⟨k0, rfl, by omega, M1.out⟩
  case round =>
    obtain ⟨k, rfl, hk5, ss, gb, cb, i2, h2, hlen, rfl, hM, hC, hG⟩ := hrel
    have HM := Lib.hid hM
    have HC := Lib.hid hC
    have HG := Lib.hid hG
    have hbase := hM.base
    obtain ⟨hb1, hb2⟩ := hbase
    clear hM hC hG
    by_cases hk : 0 < k
    · go_wp2_with fail
      refine (l1DrawText_any _ g A n cap i2 h2 hn HC.out).mono ?_
      rintro e w2 ⟨s, i3, h3, hsz, rfl, c3, b3⟩
      have HM3 := Lib.hid (HM.out.kept b3 (by intro e; injection e with e; omega))
      have HC3 := Lib.hid c3
      have HG3 := Lib.hid (only_trans HG.out b3)
      have hs3 := HG3.out.size
      clear c3 b3
      go_wp2_with (at_builtin; refine wpList_append_own _ rfl _ _ 25 rfl w.heap.size 9 i0 (.string ByteArray.empty) 1 16 Try.underlying25 hi hz0 hz1 hz2 rfl (by decide) _ _ _ rfl (HM3.out.own.alloc _) ⟨w2.heap.size, 0, none⟩ 1 1 [.string s] rfl rfl (cell_one_new _ _ _) (by simp [Value.oneCell']) (by unfold maxLen; omega) (by omega) (by simp; omega) ?_; intro v' w3 hown' hgrow _; obtain ⟨gb', cb', rfl, hM'⟩ := Made.snoc hown' HM3.out.small (by omega); have HM' := Lib.hid hM'; have HGR := Lib.hid hgrow; clear hown' hgrow hM')
      go_roundw
      case rel =>
        refine ⟨k - 1, by go_num, by omega, ss ++ [s], gb', cb', i3, h3, by simp; omega, by simp, HM'.out, ?_, ?_⟩
        · exact (HC3.out.alloc _).far (gb := gb) HGR.out (by omega)
        · exact only_own (only_alloc HG3.out _) HGR.out hb1
      case measure => simp [intOf]; omega
    · go_wp2
      go_ret
      exact ⟨ss, gb, cb, i2, h2, by omega, rfl, HM.out, HC.out, HG.out⟩

theorem Made.mono {w : World} {base base' : Nat} {ss : List ByteArray} {gb cb : Nat} (h : Made w base ss gb cb) (hb : base' ≤ base) : Made w base' ss gb cb := by
  refine ⟨⟨h.own.1, ?_⟩, h.small⟩
  rcases h.own.2 with h2 | ⟨g, cap, cur, hv, hg, r⟩
  · exact .inl h2
  · exact .inr ⟨g, cap, cur, hv, Nat.le_trans hb hg, r⟩

/-- What DrawUpto leaves. -/
def UptoOut (w : World) (e : Ending) (w' : World) : Prop :=
  ∃ (ss : List ByteArray) (gb cb : Nat) (m : Int), ss.length ≤ 5 ∧ -1 ≤ m ∧ m ≤ 40 ∧ e = .returned (.tuple #[.slice (some ⟨gb, 0, none⟩) ss.length cb, .int .i64 m]) ∧ Made w' w.heap.size ss gb cb ∧ Below w.heap.size w w'

set_option maxHeartbeats 1000000 in
theorem DrawUpto_any (w : World) (A : Option Addr) (n cap : Nat) (hn : n ≤ 4096) (hb : BytesAt w w.heap.size A n) :
    Calls Try.prog 12 #[.slice A n cap] w (UptoOut w) := by
  have HB := Lib.hid hb
  clear hb
  go_enter Try.func12, Try.ntmps12
  go_wp2_with fail
  refine (l1New_any _ A n cap hn HB.out).mono ?_
  rintro e w0 ⟨rfl, h0, c0, b0⟩
  have C0 := Lib.hid c0
  have B0 := Lib.hid b0
  have hl0 := c0.lt
  clear c0 b0
  go_wp2_with fail
  refine (l1DrawList_any _ _ A n cap 0 h0 hn C0.out).mono ?_
  rintro e w1 ⟨ss, gb, cb, i1, h1, hlen, rfl, m1, c1, b1⟩
  have M1 := Lib.hid m1
  have C1 := Lib.hid c1
  have B1 := Lib.hid b1
  have hgb := m1.base
  clear m1 c1 b1
  go_wp2_with fail
  refine (l1From_any _ _ A n cap i1 h1 (-1) 40 hn (by omega) (by omega) (by omega) (by omega) C1.out).mono ?_
  rintro e w2 ⟨m, i2, h2, ⟨hm0, hm1⟩, rfl, c2, b2⟩
  have M2 := Lib.hid ((M1.out.kept b2 (by intro e; injection e with e; omega)).mono B0.out.size)
  have B2 := Lib.hid (B0.out.trans (below_of_only (only_trans B1.out b2) (Nat.le_refl _) hl0))
  clear c2 b2
  go_wp2
  go_ret2
  exact ⟨ss, gb, cb, m, hlen, hm0, hm1, rfl, M2.out, B2.out⟩

/-- What DrawBegins leaves. -/
def PairOut (w : World) (e : Ending) (w' : World) : Prop :=
  ∃ (ss ts : List ByteArray) (ga ca gb cb : Nat), ss.length ≤ 6 ∧ ts.length ≤ 5 ∧ e = .returned (.tuple #[.slice (some ⟨ga, 0, none⟩) ss.length ca, .slice (some ⟨gb, 0, none⟩) ts.length cb]) ∧
    Made w' w.heap.size ss ga ca ∧ Made w' w.heap.size ts gb cb ∧ Below w.heap.size w w'

theorem Made.take {w : World} {base k : Nat} {ts : List ByteArray} {v : Value} (h : w.ownsRow base 9 1 v (0 + k) ([] ++ (ts.take k).map Value.string)) (hv : v ≠ .slice none 0 0) (hk : k ≤ ts.length) (hs : ∀ t ∈ ts, t.size ≤ 13) :
    ∃ (aa : List ByteArray) (ga ca : Nat), aa.length = k ∧ v = .slice (some ⟨ga, 0, none⟩) k ca ∧ Made w base aa ga ca := by
  have hl : (ts.take k).length = k := by simp; omega
  rw [Nat.zero_add, List.nil_append] at h
  rcases h.2 with ⟨e, _⟩ | ⟨g, cap, cur, e, _⟩
  · exact absurd e hv
  · refine ⟨ts.take k, g, cap, hl, e, ?_, fun t ht => hs t (List.mem_of_mem_take ht)⟩
    rw [hl, ← e]
    exact h

theorem take_news {w : World} {base : Nat} {ts : List ByteArray} {gb cb : Nat} (h : Made w base ts gb cb) (k : Nat) (hk : k ≤ ts.length) : ∀ j u, ((ts.take k).map Value.string)[j]? = some u → w.cell? ((⟨gb, 0, none⟩ : Addr).add j) = some u := by
  intro j u hu
  have hj : j < k := by
    have := (List.getElem?_eq_some_iff.1 hu).1
    simp at this
    omega
  refine h.own.cells (g := gb) rfl j u ?_
  rw [← hu, List.getElem?_map, List.getElem?_map, List.getElem?_take, if_pos hj]

set_option maxHeartbeats 2000000 in
theorem DrawBegins_any (w : World) (A : Option Addr) (n cap : Nat) (hn : n ≤ 4096) (hb : BytesAt w w.heap.size A n) :
    Calls Try.prog 11 #[.slice A n cap] w (PairOut w) := by
  obtain ⟨i0, hi, hz0, hz1, hz2⟩ := info_parts infoString
  have HB := Lib.hid hb
  clear hb
  go_enter Try.func11, Try.ntmps11
  go_wp2_with fail
  refine (l1New_any _ A n cap hn HB.out).mono ?_
  rintro e w0 ⟨rfl, h0, c0, b0⟩
  have C0 := Lib.hid c0
  have B0 := Lib.hid b0
  have hl0 := c0.lt
  clear c0 b0
  go_wp2_with fail
  refine (l1DrawList_any _ _ A n cap 0 h0 hn C0.out).mono ?_
  rintro e w1 ⟨ts, gb, cb, i1, h1, hlen, rfl, m1, c1, b1⟩
  have M1 := Lib.hid m1
  have C1 := Lib.hid c1
  have B1 := Lib.hid b1
  obtain ⟨hgb1, hgb2⟩ := m1.base
  obtain ⟨hcb1, hcb2⟩ := m1.cap
  unfold maxLen at hcb2
  clear m1 c1 b1
  go_wp2_with fail
  refine (l1Below_any _ _ A n cap i1 h1 ((ts.length : Int) + 1) hn (by omega) (by omega) (C1.out.alloc _)).mono ?_
  rintro e w2 ⟨x, i2, h2, ⟨hx0, hx1⟩, rfl, c2, b2⟩
  obtain ⟨k, rfl⟩ := Int.eq_ofNat_of_zero_le hx0
  have hk : k ≤ ts.length := by omega
  have hs2 := b2.size
  simp only [World.size_alloc] at hs2
  have M2 := Lib.hid ((M1.out.alloc _).kept b2 (by intro e; injection e with e; omega))
  have E2 : Hid (w2.ownsRow w1.heap.size 9 1 (.slice (some ⟨w1.heap.size, 0, none⟩) 0 0) 0 []) := (World.ownsRow_made w1 #[] 0 (Nat.le_refl _) (Nat.zero_le _) rfl).kept b2 (.inr (by intro e; have e1 := Option.some.inj e; dsimp only at e1; omega))
  have C2 := Lib.hid c2
  have B2 := Lib.hid (only_trans B1.out (only_trans (World.grownBy_alloc w1 _ _) b2))
  clear c2 b2
  go_wp2_with (first | (at_builtin; refine wpList_append_own _ rfl (.tmp 11) (.tmp 18) 25 rfl w1.heap.size 9 i0 (.string ByteArray.empty) 1 16 Try.underlying25 hi hz0 hz1 hz2 rfl (by decide) _ _ _ rfl E2.out ⟨gb, 0, none⟩ k cb ((ts.take k).map Value.string) rfl (by simp; omega) (take_news M2.out k hk) (by intro u hu; obtain ⟨s, _, rfl⟩ := List.mem_map.1 hu; rfl) (by unfold maxLen; omega) (by omega) (by omega) ?_; intro v' w3 hown' hgrow hnil; obtain ⟨aa, ga, ca, rfl, rfl, hM'⟩ := Made.take hown' (fun e => by have := hnil.1 e; cases this.1) hk M2.out.small; have MA := Lib.hid hM'; have HGR := Lib.hid hgrow; clear hown' hgrow hM' hnil) | fail)
  have C3 := Lib.hid (C2.out.far HGR.out (by show w.heap.size < w1.heap.size; omega))
  have B3 := Lib.hid (only_own B2.out HGR.out (by show w0.heap.size ≤ w1.heap.size; omega))
  have M3 := Lib.hid (M2.out.kept HGR.out (by intro e; have e1 := Option.some.inj e; dsimp only at e1; omega))
  have hs3 := HGR.out.size
  obtain ⟨hga1, hga2⟩ := MA.out.base
  clear HGR
  refine (l1Once_any _ _ A n cap i2 h2 3 hn (by omega) (by omega) C3.out).mono ?_
  rintro e w4 ⟨b, i4, h4, rfl, c4, b4⟩
  have C4 := Lib.hid c4
  have B4 := Lib.hid (only_trans B3.out b4)
  have MA4 := Lib.hid (MA.out.kept b4 (by intro e; injection e with e; omega))
  have M4 := Lib.hid (M3.out.kept b4 (by intro e; injection e with e; omega))
  have hs4 := b4.size
  clear c4 b4
  cases b with
  | false =>
    go_wp2
    go_ret2
    exact ⟨aa, ts, ga, ca, gb, cb, by omega, hlen, rfl, MA4.out.mono (by have := B0.out.size; omega), M4.out.mono B0.out.size, B0.out.trans (below_of_only B4.out (Nat.le_refl _) hl0)⟩
  | true =>
    go_wp2_with fail
    refine (l1DrawText_any _ _ A n cap i4 h4 hn C4.out).mono ?_
    rintro e w5 ⟨s, i5, h5, hsz, rfl, c5, b5⟩
    have B5 := Lib.hid (only_trans B4.out b5)
    have MA5 := Lib.hid (MA4.out.kept b5 (by intro e; injection e with e; omega))
    have M5 := Lib.hid (M4.out.kept b5 (by intro e; injection e with e; omega))
    have hs5 := b5.size
    clear c5 b5
    go_wp2_with (at_builtin; refine wpList_append_own _ rfl (.tmp 22) (.tmp 25) 25 rfl w1.heap.size 9 i0 (.string ByteArray.empty) 1 16 Try.underlying25 hi hz0 hz1 hz2 rfl (by decide) _ _ _ rfl (MA5.out.own.alloc _) ⟨w5.heap.size, 0, none⟩ 1 1 [.string s] rfl rfl (cell_one_new _ _ _) (by simp [Value.oneCell']) (by unfold maxLen; omega) (by omega) (by simp; omega) ?_; intro v' w6 hown' hgrow _; obtain ⟨gb', cb', rfl, hM'⟩ := Made.snoc hown' MA5.out.small (by omega); have MA6 := Lib.hid hM'; have HGR := Lib.hid hgrow; clear hown' hgrow hM')
    have B6 := Lib.hid (only_own (only_alloc B5.out _) HGR.out (by show w0.heap.size ≤ ga; omega))
    have M6 := Lib.hid ((M5.out.alloc _).kept HGR.out (by intro e; have e1 := Option.some.inj e; dsimp only at e1; omega))
    clear HGR
    go_ret2
    exact ⟨aa ++ [s], ts, gb', cb', gb, cb, by simp; omega, hlen, by simp, MA6.out.mono (by have := B0.out.size; omega), M6.out.mono B0.out.size, B0.out.trans (below_of_only B6.out (Nat.le_refl _) hl0)⟩

end Go.Proofs.Ytjgkhjdndeiidaa.Tx
