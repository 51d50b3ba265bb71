/-
  What the model draws for chapter 1: a string of at most 13 bytes; a list of at most 5 such strings in new memory; nothing that lay is written. Condition: the draw's code has at most 4096 bytes.
-/
import Derived.Test.YthkgidibonkfbaaCurNew
import Derived.Test.YthkgidibonkfbaaLists
import Derived.Test.YthkgidibonkfbaaDraw1t
namespace Go.Proofs.Ythkgidibonkfbaa.Tx
open Go.RowKit

set_option maxHeartbeats 1000000 in
theorem l1DrawAny_any (w : World) (g : Nat) (A : Option Addr) (n cap : Nat) (i h : Int) (hn : n ≤ 4096) (c : Cur w g A n cap i h) :
    Calls Try.prog 47 #[.pointer (some ⟨g, 0, none⟩)] w (StrOut 13 w g A n cap) := by
  have C := Lib.hid c
  clear c
  go_enter Try.func47, Try.ntmps47
  go_wp2_with fail
  refine (l1Once_any _ g A n cap i h 8 hn (by omega) (by omega) C.out).mono ?_
  rintro e w0 ⟨b, i0, h0, rfl, c0, b0⟩
  have C0 := Lib.hid c0
  have B0 := Lib.hid b0
  have hg := c0.lt
  clear c0 b0
  cases b with
  | true =>
    go_wp2_with fail
    refine (l1Below_any _ g A n cap i0 h0 4 hn (by omega) (by omega) (C0.out.alloc _)).mono ?_
    rintro e w1 ⟨x, i1, g1, ⟨hx0, hx1⟩, rfl, c1, b1⟩
    obtain ⟨k, rfl⟩ := Int.eq_ofNat_of_zero_le hx0
    have hblk := alloc_kept b1 hg
    have hcell : ∃ s : ByteArray, w1.cell? ⟨w0.heap.size, k, none⟩ = some (.string s) ∧ s.size ≤ 13 := by
      have hk : k = 0 ∨ k = 1 ∨ k = 2 ∨ k = 3 := by omega
      rcases hk with rfl | rfl | rfl | rfl <;> exact ⟨_, by rw [World.cell?, hblk]; rfl, by decide⟩
    obtain ⟨s, hs, hsz⟩ := hcell
    have C1 := Lib.hid c1
    have B1 := Lib.hid (only_trans B0.out (only_trans (World.grownBy_alloc w0 _ (some g)) b1))
    clear c1 b1 hblk
    go_wp2
    go_ret
    exact ⟨s, _, _, hsz, rfl, C1.out, B1.out⟩
  | false =>
    go_wp2_with fail
    refine (l1DrawText_any _ g A n cap i0 h0 hn C0.out).mono ?_
    rintro e w1 ⟨s, i1, g1, hsz, rfl, c1, b1⟩
    have C1 := Lib.hid c1
    have B1 := Lib.hid (only_trans B0.out b1)
    clear c1 b1
    go_wp2
    go_ret
    exact ⟨s, _, _, by omega, rfl, C1.out, B1.out⟩


/-- A list of strings that the call made: its value, its block, what it holds. -/
structure Made (w : World) (base : Nat) (ss : List ByteArray) (gb cb : Nat) : Prop where
  own : w.ownsRow base 9 1 (.slice (some ⟨gb, 0, none⟩) ss.length cb) ss.length (ss.map Value.string)
  small : ∀ s ∈ ss, s.size ≤ 13
theorem Made.base {w : World} {base : Nat} {ss : List ByteArray} {gb cb : Nat} (h : Made w base ss gb cb) : base ≤ gb ∧ gb < w.heap.size := h.own.lt gb rfl
theorem Made.kept {w w' : World} {base : Nat} {ss : List ByteArray} {gb cb : Nat} {row : Option Nat} (h : Made w base ss gb cb) (hg : w.grownBy w' row) (hne : some gb ≠ row) : Made w' base ss gb cb := ⟨h.own.kept hg (.inr hne), h.small⟩
theorem Made.alloc {w : World} {base : Nat} {ss : List ByteArray} {gb cb : Nat} (h : Made w base ss gb cb) (o : Obj) : Made (w.alloc o) base ss gb cb := ⟨h.own.alloc o, h.small⟩
theorem Made.cap {w : World} {base : Nat} {ss : List ByteArray} {gb cb : Nat} (h : Made w base ss gb cb) : ss.length ≤ cb ∧ cb ≤ maxLen := by
  rcases h.own.2 with ⟨e, _⟩ | ⟨g, cap, cur, e, _, _, h1, h2, _⟩
  · cases e
  · cases e; exact ⟨h1, h2⟩
theorem Made.strs {w : World} {base : Nat} {ss : List ByteArray} {gb cb : Nat} (h : Made w base ss gb cb) : Strs w w.heap.size (some ⟨gb, 0, none⟩) ss.length ss :=
  ⟨rfl, fun _ => ⟨gb, 0, rfl, h.base.2, fun j hj => by
    rw [Nat.zero_add, h.own.cellAt j (by omega), List.getElem?_map, List.getElem?_eq_getElem hj]
    rfl⟩⟩
theorem sumB_small (ss : List ByteArray) (h : ∀ s ∈ ss, s.size ≤ 13) : sumB ss ≤ 13 * ss.length := by
  induction ss with
  | nil => simp [sumB]
  | cons s r ih =>
    have h1 := h s (by simp)
    have h2 := ih (fun t ht => h t (by simp [ht]))
    have e : sumB (s :: r) = s.size + sumB r := by simp [sumB]
    rw [e, List.length_cons]
    omega
theorem Made.snoc {w : World} {base : Nat} {ss : List ByteArray} {s : ByteArray} {v : Value} (h : w.ownsRow base 9 1 v (ss.length + 1) (ss.map Value.string ++ [.string s])) (hs : ∀ t ∈ ss, t.size ≤ 13) (h1 : s.size ≤ 13) :
    ∃ gb cb, v = .slice (some ⟨gb, 0, none⟩) (ss.length + 1) cb ∧ Made w base (ss ++ [s]) gb cb := by
  obtain ⟨gb, cb, rfl, _, _⟩ := h.form (by omega)
  refine ⟨gb, cb, rfl, ?_, ?_⟩
  · rw [List.length_append, List.map_append]
    exact h
  · intro t ht
    rcases List.mem_append.1 ht with ht | ht
    · exact hs t ht
    · simp at ht; subst ht; exact h1
/-- What a draw of a list leaves. -/
def ListOut (m : Nat) (w : World) (g : Nat) (A : Option Addr) (n cap : Nat) (e : Ending) (w' : World) : Prop :=
  ∃ (ss : List ByteArray) (gb cb : Nat) (i h : Int), ss.length ≤ m ∧ e = .returned (.slice (some ⟨gb, 0, none⟩) ss.length cb) ∧ Made w' w.heap.size ss gb cb ∧ Cur w' g A n cap i h ∧ w.grownBy w' (some g)

/-- What holds at the head of l1DrawList's loop. -/
def DL (w : World) (g : Nat) (A : Option Addr) (n cap : Nat) (k : Nat) (v : Value) (wr : World) : Prop :=
  ∃ (ss : List ByteArray) (gb cb : Nat) (i h : Int), ss.length + k ≤ 5 ∧ v = .slice (some ⟨gb, 0, none⟩) ss.length cb ∧ Made wr w.heap.size ss gb cb ∧ Cur wr g A n cap i h ∧ w.grownBy wr (some g)

set_option maxHeartbeats 1000000 in
theorem l1DrawList_any (w : World) (g : Nat) (A : Option Addr) (n cap : Nat) (i h : Int) (hn : n ≤ 4096) (c : Cur w g A n cap i h) :
    Calls Try.prog 44 #[.pointer (some ⟨g, 0, none⟩)] w (ListOut 5 w g A n cap) := by
  obtain ⟨i0, hi, hz0, hz1, hz2⟩ := info_parts infoString
  have C := Lib.hid c
  have hg := c.lt
  clear c
  go_enter Try.func44, Try.ntmps44
  go_wp2_with fail
  refine (l1Below_any _ g A n cap i h 6 hn (by omega) (by omega) (C.out.alloc _)).mono ?_
  rintro e w1 ⟨x, i1, g1, ⟨hx0, hx1⟩, rfl, c1, b1⟩
  obtain ⟨k0, rfl⟩ := Int.eq_ofNat_of_zero_le hx0
  have M1 : Hid (DL w g A n cap k0 (.slice (some ⟨w.heap.size, 0, none⟩) 0 0) w1) := by
    have hm : Made (w.alloc (.cells #[] 9)) w.heap.size [] w.heap.size 0 := ⟨World.ownsRow_made w #[] 0 (Nat.le_refl _) (Nat.zero_le _) rfl, by simp⟩
    exact ⟨[], w.heap.size, 0, i1, g1, by simp; omega, rfl, hm.kept b1 (by intro e; injection e with e; omega), c1, only_trans (World.grownBy_alloc w _ (some g)) b1⟩
  clear c1 b1
  go_wp2
  go_loopw [3, 4] (fun v nn wr => ∃ k : Nat, nn = .int .i64 k ∧ k ≤ 5 ∧ DL w g A n cap k v wr) (fun _ nn _ => (intOf nn).toNat)
  case atStart => exact ⟨k0, rfl, by omega, M1.out⟩
  case round =>
    obtain ⟨k, rfl, hk5, ss, gb, cb, i2, h2, hlen, rfl, hM, hC, hG⟩ := hrel
    have HM := Lib.hid hM
    have HC := Lib.hid hC
    have HG := Lib.hid hG
    have hbase := hM.base
    obtain ⟨hb1, hb2⟩ := hbase
    clear hM hC hG
    by_cases hk : 0 < k
    · go_wp2_with fail
      refine (l1DrawText_any _ g A n cap i2 h2 hn HC.out).mono ?_
      rintro e w2 ⟨s, i3, h3, hsz, rfl, c3, b3⟩
      have HM3 := Lib.hid (HM.out.kept b3 (by intro e; injection e with e; omega))
      have HC3 := Lib.hid c3
      have HG3 := Lib.hid (only_trans HG.out b3)
      have hs3 := HG3.out.size
      clear c3 b3
      go_wp2_with (at_builtin; refine wpList_append_own _ rfl _ _ 28 rfl w.heap.size 9 i0 (.string ByteArray.empty) 1 16 Try.underlying28 hi hz0 hz1 hz2 rfl (by decide) _ _ _ rfl (HM3.out.own.alloc _) ⟨w2.heap.size, 0, none⟩ 1 1 [.string s] rfl rfl (cell_one_new _ _ _) (by simp [Value.oneCell']) (by unfold maxLen; omega) (by omega) (by simp; omega) ?_; intro v' w3 hown' hgrow _; obtain ⟨gb', cb', rfl, hM'⟩ := Made.snoc hown' HM3.out.small (by omega); have HM' := Lib.hid hM'; have HGR := Lib.hid hgrow; clear hown' hgrow hM')
      go_roundw
      case rel =>
        refine ⟨k - 1, by go_num, by omega, ss ++ [s], gb', cb', i3, h3, by simp; omega, by simp, HM'.out, ?_, ?_⟩
        · exact (HC3.out.alloc _).far (gb := gb) HGR.out (by omega)
        · exact only_own (only_alloc HG3.out _) HGR.out hb1
      case measure => simp [intOf]; omega
    · go_wp2
      go_ret
      exact ⟨ss, gb, cb, i2, h2, by omega, rfl, HM.out, HC.out, HG.out⟩

theorem Made.mono {w : World} {base base' : Nat} {ss : List ByteArray} {gb cb : Nat} (h : Made w base ss gb cb) (hb : base' ≤ base) : Made w base' ss gb cb := by
  refine ⟨⟨h.own.1, ?_⟩, h.small⟩
  rcases h.own.2 with h2 | ⟨g, cap, cur, hv, hg, r⟩
  · exact .inl h2
  · exact .inr ⟨g, cap, cur, hv, Nat.le_trans hb hg, r⟩



end Go.Proofs.Ythkgidibonkfbaa.Tx
