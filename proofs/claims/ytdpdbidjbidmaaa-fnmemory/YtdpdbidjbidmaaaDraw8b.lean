/-
  What the model draws for chapter 8 at the face: DrawMayHear, DrawNoted, DrawNewMemory. Condition: the draw's code has at most 4096 bytes.
-/
import Derived.Test.YtdpdbidjbidmaaaDraw8
namespace Go.Proofs.Ytdpdbidjbidmaaa.Tx
open Go.RowKit

/-- Four results: the first in a block, the others in slots. -/
theorem row_ret4 {P : Program} {R : Ending → World → Prop} {fn : Func} {a : Act} {w : World} {r : Nat} {p q q' q'' : Tmp} {ty t : TypeId} {cs : Array Value} {d : TypeDesc} {v v' v'' : Value} (hres : fn.results = #[.cell p ty, .tmp q, .tmp q', .tmp q'']) (hp : a.tmps.getD p undef = .pointer (some ⟨r, 0, none⟩)) (hq : a.tmps.getD q undef = v) (hq' : a.tmps.getD q' undef = v') (hq'' : a.tmps.getD q'' undef = v'')
    (hblk : w.heap[r]? = some (.cells cs t (0, 0))) (hu : P.underlying ty = some d) (hd : (match d with | .struct _ | .array _ _ => true | _ => false) = true) (hi : (P.info? ty).map (·.size) = some cs.size) (hdf : a.defers = [])
    (h : R (.returned (.tuple #[.agg cs, v, v', v''])) w) : bodyPost P fn R .ret a w := by
  refine bodyPost_ret (v := .tuple #[.agg cs, v, v', v'']) ?_ hdf h
  have hp' : a.tmps[p]?.getD undef = .pointer (some ⟨r, 0, none⟩) := by simpa using hp
  have hq1 : a.tmps[q]?.getD undef = v := by simpa using hq
  have hq2 : a.tmps[q']?.getD undef = v' := by simpa using hq'
  have hq3 : a.tmps[q'']?.getD undef = v'' := by simpa using hq''
  simp [results, hres, hp', hq1, hq2, hq3, asAddr, run_loadVar_row w r t ty cs (0, 0) d hblk hu hd hi]

/-- A drawn Memory in block mb, the result's block rb, the cursor in block g. -/
structure MH (w : World) (g mb rb base : Nat) (wr : World) (zs : List Int) (B : Option Addr) (m c : Nat) (s : Int) : Prop where
  small : MemSmall zs s
  blk : wr.heap[mb]? = some (.cells #[.slice B m c, .int .i64 s] 26 (0, 0))
  res : wr.heap[rb]? = some (.cells #[.slice none 0 0, .int .i64 0] 26 (0, 0))
  own : OwnN wr base zs B m c
  bel : Below w.heap.size w wr
  lo : w.heap.size ≤ rb
  h1 : rb < g
  h2 : g < base
  h3 : base ≤ mb
theorem MH.moved {w : World} {g mb rb base : Nat} {wr w' : World} {zs : List Int} {B : Option Addr} {m c : Nat} {s : Int} (d : MH w g mb rb base wr zs B m c s) (b : wr.grownBy w' (some g)) : MH w g mb rb base w' zs B m c s := by
  obtain ⟨h0, h1, h2, h3, h4, h5, h6, h7, h8⟩ := d
  exact ⟨h0, blk_off b h1 (by omega), blk_off b h2 (by omega), h3.kept b (fun k e e2 => by have e1 := h3.lt e; have e3 := Option.some.inj e2; omega), below_off h4 b ⟨by omega, h4.size⟩, h5, h6, h7, h8⟩

/-- What DrawMayHear leaves. -/
def MHOut (w : World) (e : Ending) (w' : World) : Prop :=
  ∃ (zs : List Int) (B : Option Addr) (m c : Nat) (s x said now : Int), MemSmall zs s ∧ (-1 ≤ x ∧ x ≤ 100001) ∧ (-1000 ≤ said ∧ said ≤ 200000) ∧ (-1000 ≤ now ∧ now ≤ 200000) ∧ e = .returned (.tuple #[.agg #[.slice B m c, .int .i64 s], .int .i64 x, .int .i64 said, .int .i64 now]) ∧ OwnN w' w.heap.size zs B m c ∧ Below w.heap.size w w'

set_option maxRecDepth 100000 in
set_option maxHeartbeats 16000000 in
theorem DrawMayHear_any (w : World) (A : Option Addr) (n cap : Nat) (hn : n ≤ 4096) (hb : BytesAt w w.heap.size A n) :
    Calls Try.prog 10 #[.slice A n cap] w (MHOut w) := by
  have BT := Lib.hid hb
  clear hb
  obtain ⟨V, hV⟩ : ∃ W, w.alloc (.cells #[.slice none 0 0, .int .i64 0] 26) = W := ⟨_, rfl⟩
  have K : Hid (Below w.heap.size w V) := by rw [← hV]; exact (Below.refl _ w).alloc (Nat.le_refl _) _
  have R : Hid (V.heap[w.heap.size]? = some (.cells #[.slice none 0 0, .int .i64 0] 26)) := by rw [← hV]; exact heap1 w _
  have sV : w.heap.size < V.heap.size := by rw [← hV]; simp
  go_enter Try.func10, Try.ntmps10
  go_wp2_with fail
  clear hV
  refine (l1New_any _ A n cap hn ((BT.out.below K.out).up K.out.size)).mono ?_
  rintro e w1 ⟨rfl, h0, c1, b⟩
  have C := Lib.hid c1
  have hcl := c1.lt
  replace R := Lib.hid (blk_on b R.out)
  replace K := Lib.hid (K.out.trans (b.mono K.out.size))
  have s1 := b.size
  clear b c1
  go_wp2_with fail
  refine (l8Draw_any _ _ A n cap 0 h0 hn C.out).mono ?_
  rintro e w2 ⟨zs, B, m, c, s, i2, h2, hsm, rfl, ho, c2, b⟩
  obtain ⟨W3, hW3⟩ : ∃ W, w2.alloc (.cells #[.slice B m c, .int .i64 s] 26) = W := ⟨_, rfl⟩
  have b3 : Below w2.heap.size w2 W3 := hW3 ▸ (Below.refl _ w2).alloc (Nat.le_refl _) _
  have D : Hid (MH w V.heap.size w2.heap.size w.heap.size w1.heap.size W3 zs B m c s) :=
    ⟨hsm, by rw [← hW3]; exact heap1 w2 _, blk_on b3 (blk_off b R.out (by omega)), ho.on b3, (below_off K.out b ⟨by omega, K.out.size⟩).trans (b3.mono (below_off K.out b ⟨by omega, K.out.size⟩).size), Nat.le_refl _, by omega, hcl, b.size⟩
  replace C := Lib.hid (c2.below (b3.mono c2.lt))
  have s2 := b.size
  have s3 := b3.size
  have hs0 := hsm.2.2.1
  have hs1 := hsm.2.2.2
  clear b b3 c2 ho hsm R K
  go_wp2_with fail
  clear hW3
  refine (l1Below_any _ _ A n cap i2 h2 9 hn (by omega) (by omega) C.out).mono ?_
  rintro e w4 ⟨x0, i4, h4, ⟨hx0, hx1⟩, rfl, cc, b⟩
  replace D := Lib.hid (D.out.moved b)
  replace C := Lib.hid cc
  clear b cc
  go_wp2_with fail
  refine (l1Once_any _ _ A n cap i4 h4 12 hn (by omega) (by omega) C.out).mono ?_
  rintro e w5 ⟨o1, i5, h5, rfl, cc, b⟩
  replace D := Lib.hid (D.out.moved b)
  replace C := Lib.hid cc
  clear b cc
  cases o1 with
  | false =>
    go_wp2_with fail
    refine (l6DrawNow_any _ _ A n cap i5 h5 hn C.out).mono ?_
    rintro e w6 ⟨y, i7, h7, ⟨hy0, hy1⟩, rfl, cc, b⟩
    replace D := Lib.hid (D.out.moved b)
    replace C := Lib.hid cc
    clear b cc
    go_wp2_with fail
    refine (l1Once_any _ _ A n cap i7 h7 4 hn (by omega) (by omega) C.out).mono ?_
    rintro e w7 ⟨o2, i8, h8, rfl, cc, b⟩
    replace D := Lib.hid (D.out.moved b)
    replace C := Lib.hid cc
    clear b cc
    cases o2 with
    | false =>
      go_wp2_with fail
      refine (l1From_any _ _ A n cap i8 h8 (-32) 32 hn (by omega) (by omega) (by omega) (by omega) C.out).mono ?_
      rintro e w8 ⟨d, i9, h9, ⟨hd0, hd1⟩, rfl, cc, b⟩
      replace D := Lib.hid (D.out.moved b)
      replace C := Lib.hid cc
      clear b cc
      go_wp2_with fail
      refine (l1Once_any _ _ A n cap i9 h9 12 hn (by omega) (by omega) C.out).mono ?_
      rintro e w9 ⟨o3, i10, h10, rfl, cc, b⟩
      replace D := Lib.hid (D.out.moved b)
      replace C := Lib.hid cc
      clear b cc
      cases o3 with
      | false =>
        obtain ⟨⟨a0, a1⟩, _⟩ := blk2 D.out.blk
        obtain ⟨⟨r0, r1⟩, p0, p1⟩ := blk2 D.out.res
        go_wp2
        have hd1 := D.out.h1
        have hd2 := D.out.h2
        exact row_ret4 (r := w.heap.size) (cs := #[.slice B m c, .int .i64 s]) rfl rfl rfl rfl rfl (setAll_whole (vs := [.slice B m c, .int .i64 s]) D.out.res rfl) Try.underlying26 rfl (by kernel_rfl) rfl
          ⟨zs, B, m, c, s, (1 + x0), (y + d), y, D.out.small, by omega, by omega, by omega, rfl, (D.out.own.mono (by omega)).heap (fun j e => by have e1 := D.out.own.lt e; exact setAll_off (g := w.heap.size) (by omega) [.slice B m c, .int .i64 s] 0), setAll_below (g := w.heap.size) (Nat.le_refl _) [.slice B m c, .int .i64 s] 0 D.out.bel⟩
      | true =>
        go_wp2_with fail
        refine (l6DrawNow_any _ _ A n cap i10 h10 hn C.out).mono ?_
        rintro e w10 ⟨e2, i11, h11, ⟨he0, he1⟩, rfl, cc, b⟩
        replace D := Lib.hid (D.out.moved b)
        replace C := Lib.hid cc
        clear b cc
        obtain ⟨⟨a0, a1⟩, _⟩ := blk2 D.out.blk
        obtain ⟨⟨r0, r1⟩, p0, p1⟩ := blk2 D.out.res
        go_wp2
        have hd1 := D.out.h1
        have hd2 := D.out.h2
        exact row_ret4 (r := w.heap.size) (cs := #[.slice B m c, .int .i64 s]) rfl rfl rfl rfl rfl (setAll_whole (vs := [.slice B m c, .int .i64 s]) D.out.res rfl) Try.underlying26 rfl (by kernel_rfl) rfl
          ⟨zs, B, m, c, s, (1 + x0), e2, y, D.out.small, by omega, by omega, by omega, rfl, (D.out.own.mono (by omega)).heap (fun j e => by have e1 := D.out.own.lt e; exact setAll_off (g := w.heap.size) (by omega) [.slice B m c, .int .i64 s] 0), setAll_below (g := w.heap.size) (Nat.le_refl _) [.slice B m c, .int .i64 s] 0 D.out.bel⟩
    | true =>
      go_wp2
      have pL : V.heap.size ∉ ([] : List Nat) := by simp
      have pB : w.heap.size ≤ V.heap.size := by omega
      have pLB : ∀ k ∈ ([] : List Nat), w.heap.size ≤ k := by simp
      have BT9 := Lib.hid (BT.out.below D.out.bel)
      refine wp_region_cur (W := w7) [] pL C.out BT9.out pB pLB (fun _ => True) stays_true trivial [0, 0, 0, 0, 1, 0, 0] (by kernel_rfl) (by kernel_rfl) (by kernel_rfl) ?_
      have hd2 := D.out.h2
      have hd3 := D.out.h3
      have fM : ∀ q : In (curEnv w7 [] V.heap.size A n cap pL ⟨_, _, C.out⟩ BT9.out pB pLB), _ := fun q => (blk2 (q.blkc D.out.blk (by simp; omega))).1
      refine wpO_quiet 4 rfl (by kernel_rfl) ?_
      simp only [List.take, List.drop]
      repeat (go_big_quiet_step (fail))
      refine wpQuiet_nil ?_
      refine wpO_callx (f := 32) (args := #[.pointer (some ⟨V.heap.size, 0, none⟩), .int .i64 2]) (α := { x : Int // 0 ≤ x ∧ x < 2 }) (fun x => .int .i64 x.1) (fun _ => []) (fun _ _ => True) rfl (fun w' => by simp [go_sem]) (fun _ => stays_true) (fun _ => ⟨⟨0, by omega⟩, fun g hg => by cases hg⟩) (fun w' hw _ => ?_) (fun u hu' => ?_)
      · obtain ⟨_, i', h', c'⟩ := hw
        exact (l1Below_any _ _ A n cap i' h' 2 hn (by omega) (by omega) c').mono fun e w'' ⟨x, i1, h1, hx, he, c1, b1⟩ => ⟨⟨x, hx⟩, he, trivial, ⟨b1, i1, h1, c1⟩, fun k hk => by cases hk⟩
      clear hu'
      obtain ⟨u, hu0, hu1⟩ := u
      dsimp only
      simp only [Act.put, List.setIfInBounds_toArray, List.set_cons_succ, List.set_cons_zero]
      refine wpO_quiet 2 rfl (by kernel_rfl) ?_
      simp only [List.take, List.drop]
      repeat (go_big_quiet_step (fail))
      refine wpQuiet_nil ?_
      refine wpO_nil ?_
      rintro w11 ⟨b', i8b, h8b, cc⟩ _
      replace D := Lib.hid (D.out.moved (KeptBut.only b'))
      replace C := Lib.hid cc
      clear b' cc fM BT9
      go_wp2_with fail
      refine (l1From_any _ _ A n cap i8b h8b (-32) 32 hn (by omega) (by omega) (by omega) (by omega) C.out).mono ?_
      rintro e w12 ⟨d, i9, h9, ⟨hd0, hd1⟩, rfl, cc, b⟩
      replace D := Lib.hid (D.out.moved b)
      replace C := Lib.hid cc
      clear b cc
      go_wp2_with fail
      refine (l1Once_any _ _ A n cap i9 h9 12 hn (by omega) (by omega) C.out).mono ?_
      rintro e w13 ⟨o3, i10, h10, rfl, cc, b⟩
      replace D := Lib.hid (D.out.moved b)
      replace C := Lib.hid cc
      clear b cc
      cases o3 with
      | false =>
        obtain ⟨⟨a0, a1⟩, _⟩ := blk2 D.out.blk
        obtain ⟨⟨r0, r1⟩, p0, p1⟩ := blk2 D.out.res
        go_wp2
        have hd1 := D.out.h1
        have hd2 := D.out.h2
        exact row_ret4 (r := w.heap.size) (cs := #[.slice B m c, .int .i64 s]) rfl rfl rfl rfl rfl (setAll_whole (vs := [.slice B m c, .int .i64 s]) D.out.res rfl) Try.underlying26 rfl (by kernel_rfl) rfl
          ⟨zs, B, m, c, s, (1 + x0), ((s + 61 + u) + d), (s + 61 + u), D.out.small, by omega, by omega, by omega, rfl, (D.out.own.mono (by omega)).heap (fun j e => by have e1 := D.out.own.lt e; exact setAll_off (g := w.heap.size) (by omega) [.slice B m c, .int .i64 s] 0), setAll_below (g := w.heap.size) (Nat.le_refl _) [.slice B m c, .int .i64 s] 0 D.out.bel⟩
      | true =>
        go_wp2_with fail
        refine (l6DrawNow_any _ _ A n cap i10 h10 hn C.out).mono ?_
        rintro e w14 ⟨e2, i11, h11, ⟨he0, he1⟩, rfl, cc, b⟩
        replace D := Lib.hid (D.out.moved b)
        replace C := Lib.hid cc
        clear b cc
        obtain ⟨⟨a0, a1⟩, _⟩ := blk2 D.out.blk
        obtain ⟨⟨r0, r1⟩, p0, p1⟩ := blk2 D.out.res
        go_wp2
        have hd1 := D.out.h1
        have hd2 := D.out.h2
        exact row_ret4 (r := w.heap.size) (cs := #[.slice B m c, .int .i64 s]) rfl rfl rfl rfl rfl (setAll_whole (vs := [.slice B m c, .int .i64 s]) D.out.res rfl) Try.underlying26 rfl (by kernel_rfl) rfl
          ⟨zs, B, m, c, s, (1 + x0), e2, (s + 61 + u), D.out.small, by omega, by omega, by omega, rfl, (D.out.own.mono (by omega)).heap (fun j e => by have e1 := D.out.own.lt e; exact setAll_off (g := w.heap.size) (by omega) [.slice B m c, .int .i64 s] 0), setAll_below (g := w.heap.size) (Nat.le_refl _) [.slice B m c, .int .i64 s] 0 D.out.bel⟩
  | true =>
    go_wp2_with fail
    refine (l2DrawAny_any _ _ A n cap i5 h5 hn C.out).mono ?_
    rintro e w15 ⟨x1, i6, h6, ⟨hz0, hz1⟩, rfl, cc, b⟩
    replace D := Lib.hid (D.out.moved b)
    replace C := Lib.hid cc
    clear b cc
    go_wp2_with fail
    refine (l6DrawNow_any _ _ A n cap i6 h6 hn C.out).mono ?_
    rintro e w16 ⟨y, i7, h7, ⟨hy0, hy1⟩, rfl, cc, b⟩
    replace D := Lib.hid (D.out.moved b)
    replace C := Lib.hid cc
    clear b cc
    go_wp2_with fail
    refine (l1Once_any _ _ A n cap i7 h7 4 hn (by omega) (by omega) C.out).mono ?_
    rintro e w17 ⟨o2, i8, h8, rfl, cc, b⟩
    replace D := Lib.hid (D.out.moved b)
    replace C := Lib.hid cc
    clear b cc
    cases o2 with
    | false =>
      go_wp2_with fail
      refine (l1From_any _ _ A n cap i8 h8 (-32) 32 hn (by omega) (by omega) (by omega) (by omega) C.out).mono ?_
      rintro e w18 ⟨d, i9, h9, ⟨hd0, hd1⟩, rfl, cc, b⟩
      replace D := Lib.hid (D.out.moved b)
      replace C := Lib.hid cc
      clear b cc
      go_wp2_with fail
      refine (l1Once_any _ _ A n cap i9 h9 12 hn (by omega) (by omega) C.out).mono ?_
      rintro e w19 ⟨o3, i10, h10, rfl, cc, b⟩
      replace D := Lib.hid (D.out.moved b)
      replace C := Lib.hid cc
      clear b cc
      cases o3 with
      | false =>
        obtain ⟨⟨a0, a1⟩, _⟩ := blk2 D.out.blk
        obtain ⟨⟨r0, r1⟩, p0, p1⟩ := blk2 D.out.res
        go_wp2
        have hd1 := D.out.h1
        have hd2 := D.out.h2
        exact row_ret4 (r := w.heap.size) (cs := #[.slice B m c, .int .i64 s]) rfl rfl rfl rfl rfl (setAll_whole (vs := [.slice B m c, .int .i64 s]) D.out.res rfl) Try.underlying26 rfl (by kernel_rfl) rfl
          ⟨zs, B, m, c, s, x1, (y + d), y, D.out.small, by omega, by omega, by omega, rfl, (D.out.own.mono (by omega)).heap (fun j e => by have e1 := D.out.own.lt e; exact setAll_off (g := w.heap.size) (by omega) [.slice B m c, .int .i64 s] 0), setAll_below (g := w.heap.size) (Nat.le_refl _) [.slice B m c, .int .i64 s] 0 D.out.bel⟩
      | true =>
        go_wp2_with fail
        refine (l6DrawNow_any _ _ A n cap i10 h10 hn C.out).mono ?_
        rintro e w20 ⟨e2, i11, h11, ⟨he0, he1⟩, rfl, cc, b⟩
        replace D := Lib.hid (D.out.moved b)
        replace C := Lib.hid cc
        clear b cc
        obtain ⟨⟨a0, a1⟩, _⟩ := blk2 D.out.blk
        obtain ⟨⟨r0, r1⟩, p0, p1⟩ := blk2 D.out.res
        go_wp2
        have hd1 := D.out.h1
        have hd2 := D.out.h2
        exact row_ret4 (r := w.heap.size) (cs := #[.slice B m c, .int .i64 s]) rfl rfl rfl rfl rfl (setAll_whole (vs := [.slice B m c, .int .i64 s]) D.out.res rfl) Try.underlying26 rfl (by kernel_rfl) rfl
          ⟨zs, B, m, c, s, x1, e2, y, D.out.small, by omega, by omega, by omega, rfl, (D.out.own.mono (by omega)).heap (fun j e => by have e1 := D.out.own.lt e; exact setAll_off (g := w.heap.size) (by omega) [.slice B m c, .int .i64 s] 0), setAll_below (g := w.heap.size) (Nat.le_refl _) [.slice B m c, .int .i64 s] 0 D.out.bel⟩
    | true =>
      go_wp2
      have pL : V.heap.size ∉ ([] : List Nat) := by simp
      have pB : w.heap.size ≤ V.heap.size := by omega
      have pLB : ∀ k ∈ ([] : List Nat), w.heap.size ≤ k := by simp
      have BT9 := Lib.hid (BT.out.below D.out.bel)
      refine wp_region_cur (W := w17) [] pL C.out BT9.out pB pLB (fun _ => True) stays_true trivial [0, 0, 0, 0, 1, 0, 0] (by kernel_rfl) (by kernel_rfl) (by kernel_rfl) ?_
      have hd2 := D.out.h2
      have hd3 := D.out.h3
      have fM : ∀ q : In (curEnv w17 [] V.heap.size A n cap pL ⟨_, _, C.out⟩ BT9.out pB pLB), _ := fun q => (blk2 (q.blkc D.out.blk (by simp; omega))).1
      refine wpO_quiet 4 rfl (by kernel_rfl) ?_
      simp only [List.take, List.drop]
      repeat (go_big_quiet_step (fail))
      refine wpQuiet_nil ?_
      refine wpO_callx (f := 32) (args := #[.pointer (some ⟨V.heap.size, 0, none⟩), .int .i64 2]) (α := { x : Int // 0 ≤ x ∧ x < 2 }) (fun x => .int .i64 x.1) (fun _ => []) (fun _ _ => True) rfl (fun w' => by simp [go_sem]) (fun _ => stays_true) (fun _ => ⟨⟨0, by omega⟩, fun g hg => by cases hg⟩) (fun w' hw _ => ?_) (fun u hu' => ?_)
      · obtain ⟨_, i', h', c'⟩ := hw
        exact (l1Below_any _ _ A n cap i' h' 2 hn (by omega) (by omega) c').mono fun e w'' ⟨x, i1, h1, hx, he, c1, b1⟩ => ⟨⟨x, hx⟩, he, trivial, ⟨b1, i1, h1, c1⟩, fun k hk => by cases hk⟩
      clear hu'
      obtain ⟨u, hu0, hu1⟩ := u
      dsimp only
      simp only [Act.put, List.setIfInBounds_toArray, List.set_cons_succ, List.set_cons_zero]
      refine wpO_quiet 2 rfl (by kernel_rfl) ?_
      simp only [List.take, List.drop]
      repeat (go_big_quiet_step (fail))
      refine wpQuiet_nil ?_
      refine wpO_nil ?_
      rintro w21 ⟨b', i8b, h8b, cc⟩ _
      replace D := Lib.hid (D.out.moved (KeptBut.only b'))
      replace C := Lib.hid cc
      clear b' cc fM BT9
      go_wp2_with fail
      refine (l1From_any _ _ A n cap i8b h8b (-32) 32 hn (by omega) (by omega) (by omega) (by omega) C.out).mono ?_
      rintro e w22 ⟨d, i9, h9, ⟨hd0, hd1⟩, rfl, cc, b⟩
      replace D := Lib.hid (D.out.moved b)
      replace C := Lib.hid cc
      clear b cc
      go_wp2_with fail
      refine (l1Once_any _ _ A n cap i9 h9 12 hn (by omega) (by omega) C.out).mono ?_
      rintro e w23 ⟨o3, i10, h10, rfl, cc, b⟩
      replace D := Lib.hid (D.out.moved b)
      replace C := Lib.hid cc
      clear b cc
      cases o3 with
      | false =>
        obtain ⟨⟨a0, a1⟩, _⟩ := blk2 D.out.blk
        obtain ⟨⟨r0, r1⟩, p0, p1⟩ := blk2 D.out.res
        go_wp2
        have hd1 := D.out.h1
        have hd2 := D.out.h2
        exact row_ret4 (r := w.heap.size) (cs := #[.slice B m c, .int .i64 s]) rfl rfl rfl rfl rfl (setAll_whole (vs := [.slice B m c, .int .i64 s]) D.out.res rfl) Try.underlying26 rfl (by kernel_rfl) rfl
          ⟨zs, B, m, c, s, x1, ((s + 61 + u) + d), (s + 61 + u), D.out.small, by omega, by omega, by omega, rfl, (D.out.own.mono (by omega)).heap (fun j e => by have e1 := D.out.own.lt e; exact setAll_off (g := w.heap.size) (by omega) [.slice B m c, .int .i64 s] 0), setAll_below (g := w.heap.size) (Nat.le_refl _) [.slice B m c, .int .i64 s] 0 D.out.bel⟩
      | true =>
        go_wp2_with fail
        refine (l6DrawNow_any _ _ A n cap i10 h10 hn C.out).mono ?_
        rintro e w24 ⟨e2, i11, h11, ⟨he0, he1⟩, rfl, cc, b⟩
        replace D := Lib.hid (D.out.moved b)
        replace C := Lib.hid cc
        clear b cc
        obtain ⟨⟨a0, a1⟩, _⟩ := blk2 D.out.blk
        obtain ⟨⟨r0, r1⟩, p0, p1⟩ := blk2 D.out.res
        go_wp2
        have hd1 := D.out.h1
        have hd2 := D.out.h2
        exact row_ret4 (r := w.heap.size) (cs := #[.slice B m c, .int .i64 s]) rfl rfl rfl rfl rfl (setAll_whole (vs := [.slice B m c, .int .i64 s]) D.out.res rfl) Try.underlying26 rfl (by kernel_rfl) rfl
          ⟨zs, B, m, c, s, x1, e2, (s + 61 + u), D.out.small, by omega, by omega, by omega, rfl, (D.out.own.mono (by omega)).heap (fun j e => by have e1 := D.out.own.lt e; exact setAll_off (g := w.heap.size) (by omega) [.slice B m c, .int .i64 s] 0), setAll_below (g := w.heap.size) (Nat.le_refl _) [.slice B m c, .int .i64 s] 0 D.out.bel⟩

/-- What DrawNoted leaves. -/
def NDOut (w : World) (e : Ending) (w' : World) : Prop :=
  ∃ (zs : List Int) (B : Option Addr) (m c : Nat) (s x : Int), MemSmall zs s ∧ (-1 ≤ x ∧ x ≤ 100001) ∧ e = .returned (.tuple #[.agg #[.slice B m c, .int .i64 s], .int .i64 x]) ∧ OwnN w' w.heap.size zs B m c ∧ Below w.heap.size w w'
set_option maxRecDepth 100000 in
set_option maxHeartbeats 4000000 in
theorem DrawNoted_any (w : World) (A : Option Addr) (n cap : Nat) (hn : n ≤ 4096) (hb : BytesAt w w.heap.size A n) :
    Calls Try.prog 12 #[.slice A n cap] w (NDOut w) := by
  have BT := Lib.hid hb
  clear hb
  obtain ⟨V, hV⟩ : ∃ W, w.alloc (.cells #[.slice none 0 0, .int .i64 0] 26) = W := ⟨_, rfl⟩
  have K : Hid (Below w.heap.size w V) := by rw [← hV]; exact (Below.refl _ w).alloc (Nat.le_refl _) _
  have R : Hid (V.heap[w.heap.size]? = some (.cells #[.slice none 0 0, .int .i64 0] 26)) := by rw [← hV]; exact heap1 w _
  have sV : w.heap.size < V.heap.size := by rw [← hV]; simp
  go_enter Try.func12, Try.ntmps12
  go_wp2_with fail
  clear hV
  refine (DrawMayHear_any _ A n cap hn ((BT.out.below K.out).up K.out.size)).mono ?_
  rintro e w1 ⟨zs, B, m, c, s, x, said, now, hsm, hx, _, _, rfl, ho, b⟩
  have O := Lib.hid ho
  have HS := Lib.hid hsm
  replace R := Lib.hid (blk_on b R.out)
  replace K := Lib.hid (K.out.trans (b.mono K.out.size))
  have s1 := b.size
  clear b ho hsm
  obtain ⟨W2, hW2⟩ : ∃ W, w1.alloc (.cells #[.slice B m c, .int .i64 s] 26) = W := ⟨_, rfl⟩
  have b : Below w1.heap.size w1 W2 := hW2 ▸ (Below.refl _ w1).alloc (Nat.le_refl _) _
  have M : Hid (W2.heap[w1.heap.size]? = some (.cells #[.slice B m c, .int .i64 s] 26)) := by rw [← hW2]; exact heap1 w1 _
  replace R := Lib.hid (blk_on b R.out)
  replace K := Lib.hid (K.out.trans (b.mono K.out.size))
  replace O := Lib.hid (O.out.on b)
  clear b
  obtain ⟨⟨a0, a1⟩, _⟩ := blk2 M.out
  obtain ⟨⟨r0, r1⟩, p0, p1⟩ := blk2 R.out
  go_wp2
  exact row_ret2 (r := w.heap.size) (cs := #[.slice B m c, .int .i64 s]) rfl rfl rfl (setAll_whole (vs := [.slice B m c, .int .i64 s]) R.out rfl) Try.underlying26 rfl (by kernel_rfl) rfl
    ⟨zs, B, m, c, s, x, HS.out, hx, rfl, (O.out.mono (by omega)).heap (fun j e => by have e1 := O.out.lt e; exact setAll_off (g := w.heap.size) (by omega) [.slice B m c, .int .i64 s] 0), setAll_below (g := w.heap.size) (Nat.le_refl _) [.slice B m c, .int .i64 s] 0 K.out⟩

theorem DrawNewMemory_any (w : World) (A : Option Addr) (n cap : Nat) (hn : n ≤ 4096) (hb : BytesAt w w.heap.size A n) :
    Calls Try.prog 14 #[.slice A n cap] w fun e w' => ∃ x : Int, (-1 ≤ x ∧ x ≤ 100001) ∧ e = .returned (.int .i64 x) ∧ Below w.heap.size w w' := by
  have BT := Lib.hid hb
  clear hb
  go_enter Try.func14, Try.ntmps14
  go_wp2_with fail
  refine (l1New_any _ A n cap hn BT.out).mono ?_
  rintro e w1 ⟨rfl, h0, c1, b⟩
  have C := Lib.hid c1
  have K := Lib.hid b
  clear b c1
  go_wp2_with fail
  refine (l6DrawNow_any _ _ A n cap 0 h0 hn C.out).mono ?_
  rintro e w2 ⟨x, i2, h2, hx, rfl, cc, b⟩
  have K2 := Lib.hid (K.out.trans (below_of_only b (Nat.le_refl _) C.out.lt))
  clear b cc
  go_wp2
  go_ret
  exact ⟨x, hx, rfl, K2.out⟩

end Go.Proofs.Ytdpdbidjbidmaaa.Tx
