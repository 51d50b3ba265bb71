/-
  What the model's Noted answers. Condition: the list has at most 1048576 numbers, and a nil list has no room.
-/
import Derived.Deep.RegionWith
import Derived.Test.YtdpdbidjbidmaaaMem5
namespace Go.Proofs.Ytdpdbidjbidmaaa.Tx
open Go.RowKit

theorem noted_bad {zs : List Int} {s x : Int} (h : memB zs s = false) : notedB zs s x = false ∧ notedL zs s x = [] ∧ sinceI zs s = 0 := by
  have h1 : notedB zs s x = false := by unfold notedB; rw [h]; rfl
  exact ⟨h1, by rw [notedL_false h1, seenL_false h], sinceI_false h⟩
theorem noted_no {zs : List Int} {s x : Int} (h : memB zs s = true) (h1 : isDrawB x = false ∨ x ∈ zs ∨ zs.length = 6) : notedB zs s x = false ∧ notedL zs s x = zs ∧ sinceI zs s = s := by
  have h2 : notedB zs s x = false := by
    unfold notedB
    rw [h, Bool.true_and]
    rcases h1 with h1 | h1 | h1
    · rw [h1]; rfl
    · rw [decide_eq_true h1]; simp
    · rw [decide_eq_true h1]; simp
  exact ⟨h2, by rw [notedL_false h2, seenL_true h], sinceI_true h⟩
theorem noted_yes {zs : List Int} {s x : Int} (h : memB zs s = true) (h1 : isDrawB x = true) (h2 : ¬ x ∈ zs) (h3 : ¬ zs.length = 6) : notedB zs s x = true ∧ notedL zs s x = zs ++ [x] ∧ sinceI zs s = s := by
  have h4 : notedB zs s x = true := by unfold notedB; rw [h, h1, decide_eq_false h2, decide_eq_false h3]; rfl
  exact ⟨h4, notedL_true h4, sinceI_true h⟩
theorem OwnN.heap {w w' : World} {base : Nat} {zs : List Int} {A : Option Addr} {n cap : Nat} (h : OwnN w base zs A n cap) (he : ∀ g, blkN A = some g → w'.heap[g]? = w.heap[g]?) : OwnN w' base zs A n cap := by
  refine ⟨⟨h.own.1, ?_⟩⟩
  rcases h.own.2 with h1 | ⟨g, c, cur, hv, hg, hh, r⟩
  · exact .inl h1
  · cases hv; exact .inr ⟨g, cap, cur, rfl, hg, (he g rfl).trans hh, r⟩
theorem OwnN.snoc {w : World} {base : Nat} {zs : List Int} {x : Int} {v : Value} (h : w.ownsRow base 2 1 v (zs.length + 1) (zs.map (Value.int .i64) ++ [.int .i64 x])) :
    ∃ g cb, v = .slice (some ⟨g, 0, none⟩) (zs.length + 1) cb ∧ OwnN w base (zs ++ [x]) (some ⟨g, 0, none⟩) (zs.length + 1) cb := by
  obtain ⟨g, cb, rfl, _, _⟩ := h.form (by omega)
  exact ⟨g, cb, rfl, ⟨by rw [List.map_append]; exact h⟩⟩

/-- No block of numbers is a block of another type. -/
theorem OwnN.ne_blk {w : World} {base : Nat} {zs : List Int} {g n cap k : Nat} {cs : Array Value} {t : TypeId} {f : Nat × Nat} (h : OwnN w base zs (some ⟨g, 0, none⟩) n cap) (hb : w.heap[k]? = some (.cells cs t f)) (ht : t ≠ 2) : g ≠ k := fun e => by
  subst e
  rcases h.own.2 with ⟨e, _⟩ | ⟨g', c, cur, hv, _, hh, _⟩
  · cases e
  · cases hv
    rw [hb] at hh
    injection hh with hh
    injection hh with _ h2 _
    exact ht h2

set_option maxRecDepth 100000 in
set_option maxHeartbeats 8000000 in
theorem Noted_spec (A : Option Addr) (n cap : Nat) (zs : List Int) (s x : Int) (w : World) (h : Nums w w.heap.size A n zs) (hz : A = none → cap = 0) (hn : n ≤ 1048576) :
    Calls Try.prog 21 #[.agg #[.slice A n cap, .int .i64 s], .int .i64 x] w (MemOut (notedL zs s x) (sinceI zs s) (notedB zs s x) w) := by
  obtain ⟨i0, hi, hz0, hz1, hz2⟩ := info_parts infoInt64
  obtain rfl : n = zs.length := h.1.symm
  obtain ⟨V, hV⟩ : ∃ V, (w.alloc (.cells #[.slice A zs.length cap, .int .i64 s] 26)).alloc (.cells #[.slice none 0 0, .int .i64 0] 26) = V := ⟨_, rfl⟩
  have K : Hid (Below w.heap.size w V) := by rw [← hV]; exact ((Below.refl _ w).alloc (Nat.le_refl _) _).alloc (by simp) _
  have B : Hid (V.heap[w.heap.size]? = some (.cells #[.slice A zs.length cap, .int .i64 s] 26)) := by rw [← hV]; exact heap2a w _ _
  have R : Hid (V.heap[w.heap.size + 1]? = some (.cells #[.slice none 0 0, .int .i64 0] 26)) := by rw [← hV]; exact heap2b w _ _
  have sV : V.heap.size = w.heap.size + 2 := by rw [← hV]; simp
  have N := Lib.hid (h.on K.out)
  have HZ := Lib.hid hz
  clear h hz
  have cM := MemoryOk_spec A zs.length cap zs s V N.out hn
  have cD := IsDraw_spec x
  cases hM : memB zs s with
  | false =>
    obtain ⟨e1, e2, e3⟩ := noted_bad (x := x) hM
    rw [hM] at cM
    rw [e1, e2, e3]
    clear hM e1 e2 e3 cD
    obtain ⟨⟨a0, a1⟩, _⟩ := blk2 B.out
    go_enter Try.func21, Try.ntmps21
    go_wp2_with fail
    clear hV a0 a1
    refine cM.mono ?_
    rintro e w1 ⟨rfl, b⟩
    have s1 := b.size
    replace B := Lib.hid (blk_on b B.out)
    replace R := Lib.hid (blk_on b R.out)
    replace N := Lib.hid (N.out.on b)
    replace K := Lib.hid (K.out.trans (b.mono K.out.size))
    clear b cM
    obtain ⟨⟨r0, r1⟩, p0, p1⟩ := blk2 R.out
    go_wp2
    exact row_ret2 (r := w.heap.size + 1) (cs := #[.slice none 0 0, .int .i64 0]) rfl rfl rfl (setAll_whole (vs := [.slice none 0 0, .int .i64 0]) R.out rfl) Try.underlying26 rfl (by kernel_rfl) rfl
      ⟨none, 0, 0, rfl, ownN_nil _ _, setAll_below (g := w.heap.size + 1) (by omega) [.slice none 0 0, .int .i64 0] 0 K.out⟩
  | true =>
    rw [hM] at cM
    cases hD : isDrawB x with
    | false =>
      obtain ⟨e1, e2, e3⟩ := noted_no hM (.inl hD)
      rw [hD] at cD
      rw [e1, e2, e3]
      clear hM hD e1 e2 e3
      obtain ⟨⟨a0, a1⟩, _⟩ := blk2 B.out
      go_enter Try.func21, Try.ntmps21
      go_wp2_with fail
      clear hV a0 a1
      refine cM.mono ?_
      rintro e w1 ⟨rfl, b⟩
      have s1 := b.size
      replace B := Lib.hid (blk_on b B.out)
      replace R := Lib.hid (blk_on b R.out)
      replace N := Lib.hid (N.out.on b)
      replace K := Lib.hid (K.out.trans (b.mono K.out.size))
      clear b cM
      obtain ⟨⟨a0, a1⟩, _⟩ := blk2 B.out
      go_wp2_with fail
      clear a0 a1
      refine (l8Copy_any A zs.length cap zs s w1 N.out HZ.out hn).mono ?_
      rintro e w2 ⟨g, cb, rfl, m, b⟩
      have s2 := b.size
      have M := Lib.hid m
      have hgl := m.lt (g := g) rfl
      clear m
      replace B := Lib.hid (blk_on b B.out)
      replace R := Lib.hid (blk_on b R.out)
      replace N := Lib.hid (N.out.on b)
      replace K := Lib.hid (K.out.trans (b.mono K.out.size))
      clear b
      obtain ⟨W3, hW3⟩ : ∃ W, w2.alloc (.cells #[.slice (some ⟨g, 0, none⟩) zs.length cb, .int .i64 s] 26) = W := ⟨_, rfl⟩
      have b : Below w2.heap.size w2 W3 := hW3 ▸ (Below.refl _ w2).alloc (Nat.le_refl _) _
      have O : Hid (W3.heap[w2.heap.size]? = some (.cells #[.slice (some ⟨g, 0, none⟩) zs.length cb, .int .i64 s] 26)) := by rw [← hW3]; exact heap1 w2 _
      have s3 : w2.heap.size < W3.heap.size := by rw [← hW3]; simp
      replace B := Lib.hid (blk_on b B.out)
      replace R := Lib.hid (blk_on b R.out)
      replace N := Lib.hid (N.out.on b)
      replace M := Lib.hid (M.out.on b)
      replace K := Lib.hid (K.out.trans (b.mono K.out.size))
      clear b
      go_wp2_with fail
      clear hW3
      refine (cD _).mono ?_
      rintro e w4 ⟨rfl, rfl⟩
      obtain ⟨⟨o0, o1⟩, _⟩ := blk2 O.out
      obtain ⟨⟨r0, r1⟩, p0, p1⟩ := blk2 R.out
      go_wp2
      exact row_ret2 (r := w.heap.size + 1) (cs := #[.slice (some ⟨g, 0, none⟩) zs.length cb, .int .i64 s]) rfl rfl rfl (setAll_whole (vs := [.slice (some ⟨g, 0, none⟩) zs.length cb, .int .i64 s]) R.out rfl) Try.underlying26 rfl (by kernel_rfl) rfl
        ⟨(some ⟨g, 0, none⟩), zs.length, cb, rfl, (M.out.mono (by omega)).heap (fun k e => by obtain rfl : g = k := Option.some.inj e; exact setAll_off (g := w.heap.size + 1) (by omega) [.slice (some ⟨g, 0, none⟩) zs.length cb, .int .i64 s] 0), setAll_below (g := w.heap.size + 1) (by omega) [.slice (some ⟨g, 0, none⟩) zs.length cb, .int .i64 s] 0 K.out⟩
    | true =>
      rw [hD] at cD
      by_cases hxm : x ∈ zs
      · obtain ⟨e1, e2, e3⟩ := noted_no hM (.inr (.inl hxm))
        have hx : decide (x ∈ zs) = true := decide_eq_true hxm
        rw [e1, e2, e3]
        clear hM hD e1 e2 e3 hxm
        obtain ⟨⟨a0, a1⟩, _⟩ := blk2 B.out
        go_enter Try.func21, Try.ntmps21
        go_wp2_with fail
        clear hV a0 a1
        refine cM.mono ?_
        rintro e w1 ⟨rfl, b⟩
        have s1 := b.size
        replace B := Lib.hid (blk_on b B.out)
        replace R := Lib.hid (blk_on b R.out)
        replace N := Lib.hid (N.out.on b)
        replace K := Lib.hid (K.out.trans (b.mono K.out.size))
        clear b cM
        obtain ⟨⟨a0, a1⟩, _⟩ := blk2 B.out
        go_wp2_with fail
        clear a0 a1
        refine (l8Copy_any A zs.length cap zs s w1 N.out HZ.out hn).mono ?_
        rintro e w2 ⟨g, cb, rfl, m, b⟩
        have s2 := b.size
        have M := Lib.hid m
        have hgl := m.lt (g := g) rfl
        clear m
        replace B := Lib.hid (blk_on b B.out)
        replace R := Lib.hid (blk_on b R.out)
        replace N := Lib.hid (N.out.on b)
        replace K := Lib.hid (K.out.trans (b.mono K.out.size))
        clear b
        obtain ⟨W3, hW3⟩ : ∃ W, w2.alloc (.cells #[.slice (some ⟨g, 0, none⟩) zs.length cb, .int .i64 s] 26) = W := ⟨_, rfl⟩
        have b : Below w2.heap.size w2 W3 := hW3 ▸ (Below.refl _ w2).alloc (Nat.le_refl _) _
        have O : Hid (W3.heap[w2.heap.size]? = some (.cells #[.slice (some ⟨g, 0, none⟩) zs.length cb, .int .i64 s] 26)) := by rw [← hW3]; exact heap1 w2 _
        have s3 : w2.heap.size < W3.heap.size := by rw [← hW3]; simp
        replace B := Lib.hid (blk_on b B.out)
        replace R := Lib.hid (blk_on b R.out)
        replace N := Lib.hid (N.out.on b)
        replace M := Lib.hid (M.out.on b)
        replace K := Lib.hid (K.out.trans (b.mono K.out.size))
        clear b
        go_wp2_with fail
        clear hW3
        refine (cD _).mono ?_
        rintro e w4 ⟨rfl, rfl⟩
        obtain ⟨⟨a0, a1⟩, _⟩ := blk2 B.out
        go_wp2_with fail
        clear a0 a1
        refine (SeenIn_spec A zs.length cap zs s x _ N.out hn).mono ?_
        rw [hx]
        rintro e w5 ⟨rfl, b⟩
        have s5 := b.size
        replace B := Lib.hid (blk_on b B.out)
        replace R := Lib.hid (blk_on b R.out)
        replace N := Lib.hid (N.out.on b)
        replace M := Lib.hid (M.out.on b)
        replace O := Lib.hid (blk_on b O.out)
        replace K := Lib.hid (K.out.trans (b.mono K.out.size))
        clear b
        obtain ⟨⟨o0, o1⟩, _⟩ := blk2 O.out
        obtain ⟨⟨r0, r1⟩, p0, p1⟩ := blk2 R.out
        go_wp2
        exact row_ret2 (r := w.heap.size + 1) (cs := #[.slice (some ⟨g, 0, none⟩) zs.length cb, .int .i64 s]) rfl rfl rfl (setAll_whole (vs := [.slice (some ⟨g, 0, none⟩) zs.length cb, .int .i64 s]) R.out rfl) Try.underlying26 rfl (by kernel_rfl) rfl
          ⟨(some ⟨g, 0, none⟩), zs.length, cb, rfl, (M.out.mono (by omega)).heap (fun k e => by obtain rfl : g = k := Option.some.inj e; exact setAll_off (g := w.heap.size + 1) (by omega) [.slice (some ⟨g, 0, none⟩) zs.length cb, .int .i64 s] 0), setAll_below (g := w.heap.size + 1) (by omega) [.slice (some ⟨g, 0, none⟩) zs.length cb, .int .i64 s] 0 K.out⟩
      have hx : decide (x ∈ zs) = false := decide_eq_false hxm
      by_cases h6 : zs.length = 6
      · obtain ⟨e1, e2, e3⟩ := noted_no (x := x) hM (.inr (.inr h6))
        have d6 : ((zs.length : Int) == 6) = true := by rw [h6]; rfl
        rw [e1, e2, e3]
        clear hM hD e1 e2 e3 hxm h6
        obtain ⟨⟨a0, a1⟩, _⟩ := blk2 B.out
        go_enter Try.func21, Try.ntmps21
        go_wp2_with fail
        clear hV a0 a1
        refine cM.mono ?_
        rintro e w1 ⟨rfl, b⟩
        have s1 := b.size
        replace B := Lib.hid (blk_on b B.out)
        replace R := Lib.hid (blk_on b R.out)
        replace N := Lib.hid (N.out.on b)
        replace K := Lib.hid (K.out.trans (b.mono K.out.size))
        clear b cM
        obtain ⟨⟨a0, a1⟩, _⟩ := blk2 B.out
        go_wp2_with fail
        clear a0 a1
        refine (l8Copy_any A zs.length cap zs s w1 N.out HZ.out hn).mono ?_
        rintro e w2 ⟨g, cb, rfl, m, b⟩
        have s2 := b.size
        have M := Lib.hid m
        have hgl := m.lt (g := g) rfl
        clear m
        replace B := Lib.hid (blk_on b B.out)
        replace R := Lib.hid (blk_on b R.out)
        replace N := Lib.hid (N.out.on b)
        replace K := Lib.hid (K.out.trans (b.mono K.out.size))
        clear b
        obtain ⟨W3, hW3⟩ : ∃ W, w2.alloc (.cells #[.slice (some ⟨g, 0, none⟩) zs.length cb, .int .i64 s] 26) = W := ⟨_, rfl⟩
        have b : Below w2.heap.size w2 W3 := hW3 ▸ (Below.refl _ w2).alloc (Nat.le_refl _) _
        have O : Hid (W3.heap[w2.heap.size]? = some (.cells #[.slice (some ⟨g, 0, none⟩) zs.length cb, .int .i64 s] 26)) := by rw [← hW3]; exact heap1 w2 _
        have s3 : w2.heap.size < W3.heap.size := by rw [← hW3]; simp
        replace B := Lib.hid (blk_on b B.out)
        replace R := Lib.hid (blk_on b R.out)
        replace N := Lib.hid (N.out.on b)
        replace M := Lib.hid (M.out.on b)
        replace K := Lib.hid (K.out.trans (b.mono K.out.size))
        clear b
        go_wp2_with fail
        clear hW3
        refine (cD _).mono ?_
        rintro e w4 ⟨rfl, rfl⟩
        obtain ⟨⟨a0, a1⟩, _⟩ := blk2 B.out
        go_wp2_with fail
        clear a0 a1
        refine (SeenIn_spec A zs.length cap zs s x _ N.out hn).mono ?_
        rw [hx]
        rintro e w5 ⟨rfl, b⟩
        have s5 := b.size
        replace B := Lib.hid (blk_on b B.out)
        replace R := Lib.hid (blk_on b R.out)
        replace N := Lib.hid (N.out.on b)
        replace M := Lib.hid (M.out.on b)
        replace O := Lib.hid (blk_on b O.out)
        replace K := Lib.hid (K.out.trans (b.mono K.out.size))
        clear b
        obtain ⟨⟨a0, a1⟩, _⟩ := blk2 B.out
        obtain ⟨⟨o0, o1⟩, _⟩ := blk2 O.out
        obtain ⟨⟨r0, r1⟩, p0, p1⟩ := blk2 R.out
        go_wp2
        exact row_ret2 (r := w.heap.size + 1) (cs := #[.slice (some ⟨g, 0, none⟩) zs.length cb, .int .i64 s]) rfl rfl rfl (setAll_whole (vs := [.slice (some ⟨g, 0, none⟩) zs.length cb, .int .i64 s]) R.out rfl) Try.underlying26 rfl (by kernel_rfl) rfl
          ⟨(some ⟨g, 0, none⟩), zs.length, cb, rfl, (M.out.mono (by omega)).heap (fun k e => by obtain rfl : g = k := Option.some.inj e; exact setAll_off (g := w.heap.size + 1) (by omega) [.slice (some ⟨g, 0, none⟩) zs.length cb, .int .i64 s] 0), setAll_below (g := w.heap.size + 1) (by omega) [.slice (some ⟨g, 0, none⟩) zs.length cb, .int .i64 s] 0 K.out⟩
      obtain ⟨e1, e2, e3⟩ := noted_yes hM hD hxm h6
      have d6 : ((zs.length : Int) == 6) = false := by rw [beq_eq_false_iff_ne]; omega
      rw [e1, e2, e3]
      clear hM hD e1 e2 e3 hxm h6
      obtain ⟨⟨a0, a1⟩, _⟩ := blk2 B.out
      go_enter Try.func21, Try.ntmps21
      go_wp2_with fail
      clear hV a0 a1
      refine cM.mono ?_
      rintro e w1 ⟨rfl, b⟩
      have s1 := b.size
      replace B := Lib.hid (blk_on b B.out)
      replace R := Lib.hid (blk_on b R.out)
      replace N := Lib.hid (N.out.on b)
      replace K := Lib.hid (K.out.trans (b.mono K.out.size))
      clear b cM
      obtain ⟨⟨a0, a1⟩, _⟩ := blk2 B.out
      go_wp2_with fail
      clear a0 a1
      refine (l8Copy_any A zs.length cap zs s w1 N.out HZ.out hn).mono ?_
      rintro e w2 ⟨g, cb, rfl, m, b⟩
      have s2 := b.size
      have M := Lib.hid m
      have hgl := m.lt (g := g) rfl
      clear m
      replace B := Lib.hid (blk_on b B.out)
      replace R := Lib.hid (blk_on b R.out)
      replace N := Lib.hid (N.out.on b)
      replace K := Lib.hid (K.out.trans (b.mono K.out.size))
      clear b
      obtain ⟨W3, hW3⟩ : ∃ W, w2.alloc (.cells #[.slice (some ⟨g, 0, none⟩) zs.length cb, .int .i64 s] 26) = W := ⟨_, rfl⟩
      have b : Below w2.heap.size w2 W3 := hW3 ▸ (Below.refl _ w2).alloc (Nat.le_refl _) _
      have O : Hid (W3.heap[w2.heap.size]? = some (.cells #[.slice (some ⟨g, 0, none⟩) zs.length cb, .int .i64 s] 26)) := by rw [← hW3]; exact heap1 w2 _
      have s3 : w2.heap.size < W3.heap.size := by rw [← hW3]; simp
      replace B := Lib.hid (blk_on b B.out)
      replace R := Lib.hid (blk_on b R.out)
      replace N := Lib.hid (N.out.on b)
      replace M := Lib.hid (M.out.on b)
      replace K := Lib.hid (K.out.trans (b.mono K.out.size))
      clear b
      go_wp2_with fail
      clear hW3
      refine (cD _).mono ?_
      rintro e w4 ⟨rfl, rfl⟩
      obtain ⟨⟨a0, a1⟩, _⟩ := blk2 B.out
      go_wp2_with fail
      clear a0 a1
      refine (SeenIn_spec A zs.length cap zs s x _ N.out hn).mono ?_
      rw [hx]
      rintro e w5 ⟨rfl, b⟩
      have s5 := b.size
      replace B := Lib.hid (blk_on b B.out)
      replace R := Lib.hid (blk_on b R.out)
      replace N := Lib.hid (N.out.on b)
      replace M := Lib.hid (M.out.on b)
      replace O := Lib.hid (blk_on b O.out)
      replace K := Lib.hid (K.out.trans (b.mono K.out.size))
      clear b
      obtain ⟨⟨a0, a1⟩, _⟩ := blk2 B.out
      obtain ⟨⟨o0, o1⟩, q0, q1⟩ := blk2 O.out
      have hgl5 := (M.out.lt (g := g) rfl).2
      go_wp2_with (at_builtin; refine wpList_append_own _ rfl _ _ 24 rfl w1.heap.size 2 i0 (.int .i64 0) 1 8 Try.underlying24 hi hz0 hz1 hz2 rfl (by decide) _ _ _ rfl (M.out.own.alloc _) ⟨w5.heap.size, 0, none⟩ 1 1 [.int .i64 x] rfl rfl (cell_one_new _ _ _) (by simp [Value.oneCell']) (by unfold maxLen; omega) (by omega) (by simp; omega) ?_; intro v' w6 hown' hgrow _; obtain ⟨g', cb', rfl, hM'⟩ := OwnN.snoc hown'; have M6 := Lib.hid hM'; have GR := Lib.hid hgrow; clear hown' hgrow hM'; have bO : w6.heap[w2.heap.size]? = some (.cells #[.slice (some ⟨g, 0, none⟩) zs.length cb, .int .i64 s] 26) := (GR.out.block _ (by simp; omega) (by intro e; have e1 : w2.heap.size = g := Option.some.inj e; omega)).trans (alloc_blk O.out); have bR : w6.heap[w.heap.size + 1]? = some (.cells #[.slice none 0 0, .int .i64 0] 26) := (GR.out.block _ (by simp; omega) (by intro e; have e1 : w.heap.size + 1 = g := Option.some.inj e; omega)).trans (alloc_blk R.out); have O6 := Lib.hid bO; have R6 := Lib.hid bR; have x0 := blk_cell bO 0; have x1 := blk_cell bO 1; have x2 := blk_frozen bO 0; have y0 := blk_cell bR 0; have y1 := blk_cell bR 1; have y2 := blk_frozen bR 0; have y3 := blk_frozen bR 1; clear bO bR)
      have K6 : Hid (Below w.heap.size w w6) := (K.out.alloc K.out.size _).grown GR.out (by simp; omega) (fun j e => by have e1 : g = j := Option.some.inj e; omega)
      clear a0 a1 o0 o1 q0 q1
      have HG' : Hid (g' ≠ w2.heap.size) := M6.out.ne_blk O6.out (by decide)
      exact row_ret2 (r := w.heap.size + 1) (cs := #[.slice (some ⟨g', 0, none⟩) (zs.length + 1) cb', .int .i64 s]) rfl rfl rfl (setAll_whole (vs := [.slice (some ⟨g', 0, none⟩) (zs.length + 1) cb', .int .i64 s]) (blk_away (p := ⟨w2.heap.size, 0, none⟩) R6.out (by simp; omega)) rfl) Try.underlying26 rfl (by kernel_rfl) rfl
        ⟨some ⟨g', 0, none⟩, zs.length + 1, cb', rfl, (M6.out.mono (by omega)).heap (fun k e => by obtain rfl : g' = k := Option.some.inj e; exact (setAll_off (g := w.heap.size + 1) (by have := M6.out.lt (g := g') rfl; omega) [.slice (some ⟨g', 0, none⟩) (zs.length + 1) cb', .int .i64 s] 0).trans (Below.heap_setCell _ _ _ _ HG'.out)), setAll_below (g := w.heap.size + 1) (by omega) [.slice (some ⟨g', 0, none⟩) (zs.length + 1) cb', .int .i64 s] 0 (K6.out.setCell (p := ⟨w2.heap.size, 0, none⟩) (by simp; omega) _)⟩

end Go.Proofs.Ytdpdbidjbidmaaa.Tx
