/-
  What the model draws for chapter 8: a memory. Condition: the draw's code has at most 4096 bytes.
-/
import Derived.Deep.RegionWith
import Derived.Deep.RegionLaw
import Derived.Deep.AppendLies
import Derived.Maps.Range
import Derived.Test.YtdpdbidjbidmaaaDrawNow
import Derived.Test.YtdpdbidjbidmaaaMem6
namespace Go.Proofs.Ytdpdbidjbidmaaa.Tx
open Go.RowKit

/-- A memory whose numbers are small. -/
def MemSmall (zs : List Int) (s : Int) : Prop := zs.length ≤ 7 ∧ (∀ z ∈ zs, -1 ≤ z ∧ z ≤ 100001) ∧ -1 ≤ s ∧ s ≤ 100001
theorem MemSmall.i64 {zs : List Int} {s : Int} (h : MemSmall zs s) : AllI64 zs := fun z hz => by have := h.2.1 z hz; exact i64_of (by omega) (by omega)
theorem memSmall_of {zs : List Int} {s : Int} (h : memB zs s = true) : MemSmall zs s := by
  obtain ⟨h1, h2, _, h4⟩ := memB_true h
  exact ⟨by omega, fun z hz => by have := isDraw_iff.1 (h1 z hz); omega, by omega⟩
theorem memSmall_snoc {zs : List Int} {s x : Int} (h : memB zs s = true) (hx : -1 ≤ x ∧ x ≤ 100001) : MemSmall (zs ++ [x]) s := by
  obtain ⟨h1, h2, h3⟩ := memSmall_of h
  refine ⟨by have := (memB_true h).2.1; simp; omega, fun z hz => ?_, h3⟩
  rcases List.mem_append.1 hz with h4 | h4
  · exact h2 z h4
  · rw [List.mem_singleton.1 h4]; exact hx
theorem noted_right {zs : List Int} {s : Int} (x : Int) (h : memB zs s = true) : memB (notedL zs s x) s = true := by
  cases hb : notedB zs s x
  · rw [notedL_false hb, seenL_true h]; exact h
  · rw [notedL_true hb]; exact notedL_right hb
theorem OwnN.nilcap {w : World} {base : Nat} {zs : List Int} {A : Option Addr} {n cap : Nat} (h : OwnN w base zs A n cap) (e : A = none) : cap = 0 := by
  rcases h.form with ⟨_, _, h0⟩ | ⟨g, h1⟩
  · exact h0
  · rw [e] at h1; cases h1

theorem only_from {a b c : World} {row : Option Nat} {B : Nat} (h : a.grownBy b row) (k : Below B b c) (hB : a.heap.size ≤ B) : a.grownBy c row :=
  ⟨k.os.trans h.os, k.tape.trans h.tape, k.output.trans h.output, Nat.le_trans h.size k.size, fun i hi hne => (k.block i (by omega)).trans (h.block i hi hne)⟩

/-- The Memory in block mb at the head of the draw's loop. -/
structure MemIn (w0 w : World) (g : Nat) (A : Option Addr) (n cap : Nat) (mb rb base : Nat) (wr : World) (zs : List Int) (B : Option Addr) (m c : Nat) (s i h : Int) : Prop where
  right : memB zs s = true
  blk : wr.heap[mb]? = some (.cells #[.slice B m c, .int .i64 s] 26 (0, 0))
  res : wr.heap[rb]? = some (.cells #[.slice none 0 0, .int .i64 0] 26 (0, 0))
  own : OwnN wr base zs B m c
  cur : Cur wr g A n cap i h
  gr : w.grownBy wr (some g)
  sz : w0.heap.size ≤ wr.heap.size

/-- What a draw of a memory leaves. -/
def MemDrawn (w : World) (g : Nat) (A : Option Addr) (n cap : Nat) (e : Ending) (w' : World) : Prop :=
  ∃ (zs : List Int) (B : Option Addr) (m c : Nat) (s i h : Int), MemSmall zs s ∧ e = .returned (.agg #[.slice B m c, .int .i64 s]) ∧ OwnN w' w.heap.size zs B m c ∧ Cur w' g A n cap i h ∧ w.grownBy w' (some g)

set_option maxRecDepth 100000 in
set_option maxHeartbeats 8000000 in
theorem l8Draw_any (w : World) (g : Nat) (A : Option Addr) (n cap : Nat) (i h : Int) (hn : n ≤ 4096) (c : Cur w g A n cap i h) :
    Calls Try.prog 31 #[.pointer (some ⟨g, 0, none⟩)] w (MemDrawn w g A n cap) := by
  have hg := c.lt
  have C := Lib.hid c
  clear c
  obtain ⟨V, hV⟩ : ∃ W, w.alloc (.cells #[.slice none 0 0, .int .i64 0] 26) = W := ⟨_, rfl⟩
  have G := Lib.hid (only_alloc (only_refl w g) (.cells #[.slice none 0 0, .int .i64 0] 26))
  replace C := Lib.hid (C.out.alloc (.cells #[.slice none 0 0, .int .i64 0] 26))
  have R := Lib.hid (heap1 w (.cells #[.slice none 0 0, .int .i64 0] 26))
  rw [hV] at G C R
  have sV : w.heap.size < V.heap.size := by rw [← hV]; simp
  go_enter Try.func31, Try.ntmps31
  go_wp2_with fail
  clear hV
  refine (l1Below_any _ g A n cap i h 60 hn (by omega) (by omega) C.out).mono ?_
  rintro e w1 ⟨s, i1, h1, ⟨hs0, hs1⟩, rfl, c, b⟩
  replace G := Lib.hid (only_trans G.out b)
  replace C := Lib.hid c
  replace R := Lib.hid (blk_off b R.out (by omega))
  have s1 := b.size
  clear b c
  obtain ⟨W2, hW2⟩ : ∃ W, w1.alloc (.cells #[.slice none 0 0, .int .i64 s] 26) = W := ⟨_, rfl⟩
  replace G := Lib.hid (only_alloc G.out (.cells #[.slice none 0 0, .int .i64 s] 26))
  replace C := Lib.hid (C.out.alloc (.cells #[.slice none 0 0, .int .i64 s] 26))
  replace R := Lib.hid (alloc_blk (o := .cells #[.slice none 0 0, .int .i64 s] 26) R.out)
  have M := Lib.hid (heap1 w1 (.cells #[.slice none 0 0, .int .i64 s] 26))
  rw [hW2] at G C R M
  have s2 : w1.heap.size < W2.heap.size := by rw [← hW2]; simp
  go_wp2_with fail
  clear hW2
  refine (l1Below_any _ g A n cap i1 h1 8 hn (by omega) (by omega) C.out).mono ?_
  rintro e w3 ⟨x, i3, h3, ⟨hx0, hx1⟩, rfl, c, b⟩
  obtain ⟨k0, rfl⟩ := Int.eq_ofNat_of_zero_le hx0
  have D : Hid (MemIn W2 w g A n cap w1.heap.size w.heap.size W2.heap.size w3 [] none 0 0 s i3 h3) :=
    ⟨memB_mk (fun z hz => by cases hz) (by simp) List.nodup_nil ⟨hs0, by omega⟩, blk_off b M.out (by omega), blk_off b R.out (by omega), ownN_nil _ _, c, only_trans G.out b, b.size⟩
  have s3 := b.size
  clear b c G C R M
  go_wp2
  go_loopw [4] (fun nn wr => ∃ (k : Nat) (zs : List Int) (B : Option Addr) (m c : Nat) (i h : Int), nn = .int .i64 k ∧ k ≤ 7 ∧ MemIn W2 w g A n cap w1.heap.size w.heap.size W2.heap.size wr zs B m c s i h) (fun nn _ => (intOf nn).toNat)
  case atStart => exact ⟨k0, [], none, 0, 0, i3, h3, rfl, by omega, D.out⟩
  case round =>
    obtain ⟨k, zs, B, m, c, i4, h4, rfl, hk7, hD⟩ := hrel
    replace D := Lib.hid hD
    clear hD
    have hml : m ≤ 6 := by rw [← D.out.own.len]; exact (memB_true D.out.right).2.1
    by_cases hk : 0 < k
    · have cN : Hid (∀ (x : Int) (w' : World), Nums w' w'.heap.size B m zs → Calls Try.prog 21 #[.agg #[.slice B m c, .int .i64 s], .int .i64 x] w' fun e w'' => ∃ (zs' : List Int) (B' : Option Addr) (m' c' : Nat) (y : Bool), e = .returned (.tuple #[.agg #[.slice B' m' c', .int .i64 s], .bool y]) ∧ memB zs' s = true ∧ OwnN w'' w'.heap.size zs' B' m' c' ∧ Below w'.heap.size w' w'') := fun x w' hN => by
        have h1 := Noted_spec B m c zs s x w' hN D.out.own.nilcap (by omega)
        rw [sinceI_true D.out.right] at h1
        exact h1.mono fun e w'' ⟨B', m', c', he, ho, hb⟩ => ⟨_, B', m', c', _, he, noted_right x D.out.right, ho, hb⟩
      obtain ⟨⟨a0, a1⟩, _⟩ := blk2 D.out.blk
      go_wp2
      go_region_with (first | (go_at_call 32; refine (l1Below_any _ g A n cap i4 h4 9 hn (by omega) (by omega) (D.out.cur.drewN 1)).mono ?_; rintro e w5 ⟨x, i5, h5, ⟨hx0, hx1⟩, rfl, c5, b5⟩; have HC5 := Lib.hid c5; have HB5 := Lib.hid (only_trans (only_drewN (only_refl wr g) 1) b5); clear c5 b5; obtain ⟨⟨d0, d1⟩, _⟩ := blk2 (blk_off HB5.out D.out.blk (by omega))) | (go_at_call 21; refine (cN.out _ _ (D.out.own.kept HB5.out (fun k e e2 => by have h1 := D.out.own.lt e; have h2 := Option.some.inj e2; omega)).nums).mono ?_; rintro e w6 ⟨zs', B', m', c', y, rfl, hm', ho, b6⟩; have HM6 := Lib.hid hm'; have HO6 := Lib.hid ho; have HB6 := Lib.hid b6; clear hm' ho b6; obtain ⟨⟨f0, f1⟩, p0, p1⟩ := blk2 (blk_on HB6.out (blk_off HB5.out D.out.blk (by omega)))))
      all_goals
        have hs5 := HB5.out.size
        have hs6 := HB6.out.size
        have hsd := D.out.sz
        go_wp2
        go_roundw
        case rel =>
          have bl : Below w1.heap.size w6 (setAll w6 w1.heap.size 0 [.slice B' m' c', .int .i64 s]) := setAll_below (Nat.le_refl _) [.slice B' m' c', .int .i64 s] 0 (Below.refl _ _)
          refine ⟨k - 1, zs', B', m', c', i5, h5, by go_num, by omega, HM6.out, setAll_whole (vs := [.slice B' m' c', .int .i64 s]) (blk_on HB6.out (blk_off HB5.out D.out.blk (by omega))) rfl, setAll_away (g := w1.heap.size) (by omega) [.slice B' m' c', .int .i64 s] 0 (blk_on HB6.out (blk_off HB5.out D.out.res (by omega))), ?_, ?_, ?_, ?_⟩
          · exact (HO6.out.mono (by omega)).heap (fun j e => by have h1 := HO6.out.lt e; exact setAll_off (g := w1.heap.size) (by omega) [.slice B' m' c', .int .i64 s] 0)
          · exact (HC5.out.below (HB6.out.mono HC5.out.lt)).below (bl.mono (by omega))
          · exact only_from (only_below (only_trans D.out.gr HB5.out) HB6.out) bl (by omega)
          · exact Nat.le_trans (by omega : W2.heap.size ≤ w6.heap.size) bl.size
        case measure => simp [intOf]; omega
    · have hs := D.out.sz
      go_wp2_with fail
      refine (l1Once_any _ g A n cap i4 h4 10 hn (by omega) (by omega) D.out.cur).mono ?_
      rintro e w5 ⟨o, i5, h5, rfl, c5, b5⟩
      replace D : Hid (MemIn W2 w g A n cap w1.heap.size w.heap.size W2.heap.size w5 zs B m c s i5 h5) :=
        ⟨D.out.right, blk_off b5 D.out.blk (by omega), blk_off b5 D.out.res (by omega), D.out.own.kept b5 (fun k e e2 => by have h1 := D.out.own.lt e; have h2 := Option.some.inj e2; omega), c5, only_trans D.out.gr b5, Nat.le_trans D.out.sz b5.size⟩
      have s5 := b5.size
      clear b5 c5
      cases o with
      | false =>
        obtain ⟨⟨a0, a1⟩, _⟩ := blk2 D.out.blk
        obtain ⟨⟨r0, r1⟩, p0, p1⟩ := blk2 D.out.res
        go_wp2
        have bl : Below w.heap.size w5 (setAll w5 w.heap.size 0 [.slice B m c, .int .i64 s]) := setAll_below (Nat.le_refl _) [.slice B m c, .int .i64 s] 0 (Below.refl _ _)
        exact row_ret (r := w.heap.size) (cs := #[.slice B m c, .int .i64 s]) rfl rfl (setAll_whole (vs := [.slice B m c, .int .i64 s]) D.out.res rfl) Try.underlying26 rfl (by kernel_rfl) rfl
          ⟨zs, B, m, c, s, i5, h5, memSmall_of D.out.right, rfl, (D.out.own.mono (by omega)).heap (fun j e => by have h1 := D.out.own.lt e; exact setAll_off (g := w.heap.size) (by omega) [.slice B m c, .int .i64 s] 0), D.out.cur.below (bl.mono (by omega)), only_from D.out.gr bl (Nat.le_refl _)⟩
      | true =>
        go_wp2_with fail
        refine (l1Below_any _ g A n cap i5 h5 2 hn (by omega) (by omega) D.out.cur).mono ?_
        rintro e w6 ⟨x, i6, h6, ⟨hx0, hx1⟩, rfl, c6, b6⟩
        replace D : Hid (MemIn W2 w g A n cap w1.heap.size w.heap.size W2.heap.size w6 zs B m c s i6 h6) :=
          ⟨D.out.right, blk_off b6 D.out.blk (by omega), blk_off b6 D.out.res (by omega), D.out.own.kept b6 (fun k e e2 => by have h1 := D.out.own.lt e; have h2 := Option.some.inj e2; omega), c6, only_trans D.out.gr b6, Nat.le_trans D.out.sz b6.size⟩
        have s6 := b6.size
        clear b6 c6
        by_cases hx : x = 0
        · subst hx
          obtain ⟨i0, hi, hz0, hz1, hz2⟩ := info_parts infoInt64
          obtain rfl : m = zs.length := D.out.own.len.symm
          have hsd := D.out.sz
          obtain ⟨⟨a0, a1⟩, _⟩ := blk2 D.out.blk
          go_wp2
          go_region_law (first | (refine step_append_lies _ rfl _ _ 24 rfl W2.heap.size 2 i0 (.int .i64 0) 1 8 Try.underlying24 hi hz0 hz1 hz2 rfl (by decide) (.slice B zs.length c) zs.length (zs.map (Value.int .i64)) rfl (M7.out.alloc _).own ⟨w7.heap.size, 0, none⟩ 1 1 [.int .i64 y] rfl rfl (cell_one_new _ _ _) (by simp [Value.oneCell']) (by omega) (by unfold maxLen; omega) (by omega) (by simp; omega) _ rfl ?_; intro g' cb' w8 hown hgr _ _; have HM8 : Hid (OwnN w8 W2.heap.size (zs ++ [y]) (some ⟨g', 0, none⟩) (zs.length + 1) cb') := ⟨(by rw [List.map_append]; exact hown)⟩; have bk : w8.heap[w1.heap.size]? = some (.cells #[.slice B zs.length c, .int .i64 s] 26) := (hgr.block _ (by simp; omega) (by intro e; rw [ownBlock_eq] at e; have h1 := D.out.own.lt e.symm; omega)).trans (alloc_blk (blk_off HB7.out D.out.blk (by omega))); have bs : w8.heap[w.heap.size]? = some (.cells #[.slice none 0 0, .int .i64 0] 26) := (hgr.block _ (by simp; omega) (by intro e; rw [ownBlock_eq] at e; have h1 := D.out.own.lt e.symm; omega)).trans (alloc_blk (blk_off HB7.out D.out.res (by omega))); have BK := Lib.hid bk; have BS := Lib.hid bs; have HG8 := Lib.hid hgr; clear hown hgr; obtain ⟨⟨f0, f1⟩, p0, p1⟩ := blk2 bk; clear bk bs) | (go_simp; go_at_call 34; refine (l2DrawAny_any _ g A n cap i6 h6 hn (D.out.cur.drewN 1)).mono ?_; rintro e w7 ⟨y, i7, h7, ⟨hy0, hy1⟩, rfl, c7, b7⟩; have HC7 := Lib.hid c7; have HB7 := Lib.hid (only_trans (only_drewN (only_refl w6 g) 1) b7); clear c7 b7; obtain ⟨⟨d0, d1⟩, _⟩ := blk2 (blk_off HB7.out D.out.blk (by omega)); obtain ⟨⟨d2, d3⟩, _⟩ := blk2 (alloc_blk (o := .cells #[.int .i64 y] 2) (blk_off HB7.out D.out.blk (by omega))); have hs7 := HB7.out.size; have M7 := Lib.hid (D.out.own.kept HB7.out (fun k e e2 => by have h1 := D.out.own.lt e; have h2 := Option.some.inj e2; omega))))
          all_goals
            have hs8 := HG8.out.size
            simp only [World.size_alloc] at hs8
            have GL := HM8.out.lt (g := g') rfl
            have BM : w8.heap[w1.heap.size]? = some (.cells #[.slice B zs.length c, .int .i64 s] 26) := BK.out
            have bR9 := blk_away (u := .slice (some ⟨g', 0, none⟩) (zs.length + 1) cb') (p := ⟨w1.heap.size, 0, none⟩) BS.out (by simp; omega)
            have bM9 := blk_put (i := 0) BM (.slice (some ⟨g', 0, none⟩) (zs.length + 1) cb')
            obtain ⟨⟨q0, q1⟩, _⟩ := blk2 bM9
            obtain ⟨⟨r0, r1⟩, p2, p3⟩ := blk2 bR9
            go_wp2
            have b7 : Below (g + 1) w7 w8 := ((Below.refl (g + 1) w7).alloc (by omega) _).grown HG8.out (by simp; omega) (fun j e => by rw [ownBlock_eq] at e; have h1 := D.out.own.lt e; omega)
            have bl : Below w.heap.size w8 (setAll (w8.setCell ⟨w1.heap.size, 0, none⟩ (.slice (some ⟨g', 0, none⟩) (zs.length + 1) cb')) w.heap.size 0 [.slice (some ⟨g', 0, none⟩) (zs.length + 1) cb', .int .i64 s]) := setAll_below (Nat.le_refl _) [.slice (some ⟨g', 0, none⟩) (zs.length + 1) cb', .int .i64 s] 0 ((Below.refl _ w8).setCell (p := ⟨w1.heap.size, 0, none⟩) (by simp; omega) _)
            exact row_ret (r := w.heap.size) (cs := #[.slice (some ⟨g', 0, none⟩) (zs.length + 1) cb', .int .i64 s]) rfl rfl (setAll_whole (vs := [.slice (some ⟨g', 0, none⟩) (zs.length + 1) cb', .int .i64 s]) bR9 rfl) Try.underlying26 rfl (by kernel_rfl) rfl
              ⟨zs ++ [y], some ⟨g', 0, none⟩, zs.length + 1, cb', s, i7, h7, memSmall_snoc D.out.right ⟨hy0, hy1⟩, rfl, (HM8.out.mono (by omega)).heap (fun j e => by obtain rfl : g' = j := Option.some.inj e; exact (setAll_off (g := w.heap.size) (by omega) [.slice (some ⟨g', 0, none⟩) (zs.length + 1) cb', .int .i64 s] 0).trans (Below.heap_setCell _ _ _ _ (by simp; omega))), (HC7.out.below b7).below (bl.mono (by omega)), only_from ((only_alloc (only_trans D.out.gr HB7.out) _).andThen HG8.out (fun j e => by rw [ownBlock_eq] at e; have h1 := D.out.own.lt e; exact .inl (by omega))) bl (Nat.le_refl _)⟩
        · obtain rfl : x = 1 := by omega
          clear hx
          have hsd := D.out.sz
          obtain ⟨W7, hW7⟩ : ∃ W, w6.alloc (.cells #[.int .i64 (-1), .int .i64 100000, .int .i64 100001] 2) = W := ⟨_, rfl⟩
          have b7 : Below w6.heap.size w6 W7 := hW7 ▸ (Below.refl _ w6).alloc (Nat.le_refl _) _
          have L : Hid (W7.heap[w6.heap.size]? = some (.cells #[.int .i64 (-1), .int .i64 100000, .int .i64 100001] 2)) := by rw [← hW7]; exact heap1 w6 _
          have hlt7 : w6.heap.size < W7.heap.size := by rw [← hW7]; simp
          replace D : Hid (MemIn W2 w g A n cap w1.heap.size w.heap.size W2.heap.size W7 zs B m c s i6 h6) :=
            ⟨D.out.right, blk_on b7 D.out.blk, blk_on b7 D.out.res, D.out.own.on b7, D.out.cur.below (b7.mono D.out.cur.lt), only_below D.out.gr b7, Nat.le_trans D.out.sz b7.size⟩
          clear b7
          go_wp2_with fail
          clear hW7
          refine (l1Below_any _ g A n cap i6 h6 3 hn (by omega) (by omega) D.out.cur).mono ?_
          rintro e w8 ⟨x, i8, h8, ⟨hx0, hx1⟩, rfl, c8, b8⟩
          replace D : Hid (MemIn W2 w g A n cap w1.heap.size w.heap.size W2.heap.size w8 zs B m c s i8 h8) :=
            ⟨D.out.right, blk_off b8 D.out.blk (by omega), blk_off b8 D.out.res (by omega), D.out.own.kept b8 (fun k e e2 => by have h1 := D.out.own.lt e; have h2 := Option.some.inj e2; omega), c8, only_trans D.out.gr b8, Nat.le_trans D.out.sz b8.size⟩
          replace L := Lib.hid (blk_off b8 L.out (by omega))
          have s8 := b8.size
          clear b8 c8
          obtain ⟨q, rfl⟩ := Int.eq_ofNat_of_zero_le hx0
          obtain ⟨zz, hz, hz0, hz1⟩ : ∃ z : Int, w8.cell? ⟨w6.heap.size, q, none⟩ = some (.int .i64 z) ∧ -1 ≤ z ∧ z ≤ 100001 := by
            rw [blk_cell L.out]
            have hm : q = 0 ∨ q = 1 ∨ q = 2 := by omega
            rcases hm with rfl | rfl | rfl <;> exact ⟨_, rfl, by omega, by omega⟩
          obtain ⟨⟨a0, a1⟩, f0, f1⟩ := blk2 D.out.blk
          obtain ⟨⟨r0, r1⟩, p0, p1⟩ := blk2 D.out.res
          go_wp2
          have b1 : Below w1.heap.size w8 (w8.setCell ⟨w1.heap.size, 1, none⟩ (.int .i64 zz)) := (Below.refl _ w8).setCell (p := ⟨w1.heap.size, 1, none⟩) (Nat.le_refl _) _
          have R9 := blk_away (u := .int .i64 zz) (p := ⟨w1.heap.size, 1, none⟩) D.out.res (by simp; omega)
          have bl : Below w.heap.size w8 (setAll (w8.setCell ⟨w1.heap.size, 1, none⟩ (.int .i64 zz)) w.heap.size 0 [.slice B m c, .int .i64 zz]) := setAll_below (Nat.le_refl _) [.slice B m c, .int .i64 zz] 0 (b1.mono (by omega))
          exact row_ret (r := w.heap.size) (cs := #[.slice B m c, .int .i64 zz]) rfl rfl (setAll_whole (vs := [.slice B m c, .int .i64 zz]) R9 rfl) Try.underlying26 rfl (by kernel_rfl) rfl
            ⟨zs, B, m, c, zz, i8, h8, ⟨(memSmall_of D.out.right).1, (memSmall_of D.out.right).2.1, hz0, hz1⟩, rfl, (D.out.own.mono (by omega)).heap (fun j e => by have h1 := D.out.own.lt e; exact (setAll_off (g := w.heap.size) (by omega) [.slice B m c, .int .i64 zz] 0).trans (Below.heap_setCell _ _ _ _ (by simp; omega))), D.out.cur.below (bl.mono (by omega)), only_from D.out.gr bl (Nat.le_refl _)⟩

end Go.Proofs.Ytdpdbidjbidmaaa.Tx
