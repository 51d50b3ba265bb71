/-
  What the model draws for chapter 14 at the face: a seat; a seat and a box; what a seat is made of. Condition: the draw's code has at most 4096 bytes.
-/
import Derived.Test.YtchdmmlkgglmcaaGreatDoorDraw14c
import Derived.Test.YtchdmmlkgglmcaaGreatDoorDraw11
namespace Go.Proofs.YtchdmmlkgglmcaaGreatDoor.Tx
open Go.RowKit


set_option maxRecDepth 100000 in
set_option maxHeartbeats 64000000 in
theorem DrawHears_any (w : World) (A : Option Addr) (n cap : Nat) (hn : n ≤ 4096) (hb : BytesAt w w.heap.size A n) :
    Calls Tryz.prog 5 #[.slice A n cap] w (HearsIn w) := by
  have K := Lib.hid (Below.refl w.heap.size w)
  have BT := Lib.hid hb
  clear hb
  go_enter Tryz.func5, Tryz.ntmps5
  obtain ⟨V0, hV0⟩ : ∃ W, w.alloc (.cells #[.int .i64 0, .int .i64 0, .int .i64 0, .int .i64 0, .int .i64 0, .int .i64 0, .int .i64 0, .int .i64 0, .int .i64 0, .int .i64 0, .int .i64 0, .int .i64 0, .int .i64 0, .int .i64 0, .slice none 0 0] 30) = W := ⟨_, rfl⟩
  replace BT := Lib.hid (BT.out.below ((Below.refl _ _).alloc K.out.size (.cells #[.int .i64 0, .int .i64 0, .int .i64 0, .int .i64 0, .int .i64 0, .int .i64 0, .int .i64 0, .int .i64 0, .int .i64 0, .int .i64 0, .int .i64 0, .int .i64 0, .int .i64 0, .int .i64 0, .slice none 0 0] 30)))
  replace K := Lib.hid (K.out.alloc K.out.size (.cells #[.int .i64 0, .int .i64 0, .int .i64 0, .int .i64 0, .int .i64 0, .int .i64 0, .int .i64 0, .int .i64 0, .int .i64 0, .int .i64 0, .int .i64 0, .int .i64 0, .int .i64 0, .int .i64 0, .slice none 0 0] 30))
  have R0 := Lib.hid (heap1 w (.cells #[.int .i64 0, .int .i64 0, .int .i64 0, .int .i64 0, .int .i64 0, .int .i64 0, .int .i64 0, .int .i64 0, .int .i64 0, .int .i64 0, .int .i64 0, .int .i64 0, .int .i64 0, .int .i64 0, .slice none 0 0] 30))
  rw [hV0] at BT K R0
  have sV0 : w.heap.size < V0.heap.size := by rw [← hV0]; simp
  obtain ⟨V1, hV1⟩ : ∃ W, V0.alloc (.cells #[.int .i64 0, .int .i64 0, .int .i64 0, .int .i64 0, .int .i64 0, .string ⟨#[]⟩, .bool false] 32) = W := ⟨_, rfl⟩
  replace BT := Lib.hid (BT.out.below ((Below.refl _ _).alloc K.out.size (.cells #[.int .i64 0, .int .i64 0, .int .i64 0, .int .i64 0, .int .i64 0, .string ⟨#[]⟩, .bool false] 32)))
  replace K := Lib.hid (K.out.alloc K.out.size (.cells #[.int .i64 0, .int .i64 0, .int .i64 0, .int .i64 0, .int .i64 0, .string ⟨#[]⟩, .bool false] 32))
  replace R0 := Lib.hid (alloc_blk (o := .cells #[.int .i64 0, .int .i64 0, .int .i64 0, .int .i64 0, .int .i64 0, .string ⟨#[]⟩, .bool false] 32) R0.out)
  have R1 := Lib.hid (heap1 V0 (.cells #[.int .i64 0, .int .i64 0, .int .i64 0, .int .i64 0, .int .i64 0, .string ⟨#[]⟩, .bool false] 32))
  rw [hV1] at BT K R0 R1
  have sV1 : V0.heap.size < V1.heap.size := by rw [← hV1]; simp
  go_wp2_with fail
  refine (l1New_any _ A n cap hn (BT.out.up K.out.size)).mono ?_
  rintro e w1 ⟨rfl, h0, c, b⟩
  replace BT := Lib.hid (BT.out.below (b.mono K.out.size))
  replace K := Lib.hid (K.out.trans (b.mono K.out.size))
  replace R0 := Lib.hid (blk_on b R0.out)
  replace R1 := Lib.hid (blk_on b R1.out)
  have C := Lib.hid c
  have hcl := c.lt
  have sw1 := b.size
  have sK := K.out.size
  clear b c
  clear hV0 hV1
  go_wp2_with fail
  refine (l14DrawAny_any _ _ A n cap 0 h0 hn _ (by omega) BT.out C.out).mono ?_
  rintro e w2 ⟨⟨st, sh, sd, sp, ⟨⟨eu, es, eh, ea⟩, en⟩, ⟨⟨fu, fs, fh, fa⟩, fn⟩⟩, B, m, mc, l, bs, gb, cb, i1, h1, hm, hbs, rfl, ho, mb, c, b⟩
  replace BT := Lib.hid (BT.out.below ((Below.refl _ _).grown b K.out.size (fun k e => by have e1 := Option.some.inj e; omega)))
  replace K := Lib.hid (below_off K.out b ⟨by omega, K.out.size⟩)
  replace R0 := Lib.hid (blk_kept b R0.out (by omega))
  replace R1 := Lib.hid (blk_kept b R1.out (by omega))
  replace C := Lib.hid c
  have sw2 := b.size
  have LG0 := Lib.hid ho
  have M0 := Lib.hid mb
  have hgb := mb.base
  have hlLG : ∀ k, blkA B = some k → w1.heap.size ≤ k ∧ k < w2.heap.size := fun k e => ho.lt e
  clear ho mb
  clear b c
  have LG := LG0
  have M := M0
  clear LG0 M0
  have HV : Hid (SeatV.val ⟨st, sh, sd, sp, ⟨⟨eu, es, eh, ea⟩, en⟩, ⟨⟨fu, fs, fh, fa⟩, fn⟩⟩ B m mc = .agg #[.int .i64 st, .int .i64 sh, .int .i64 sd, .int .i64 sp, .int .i64 eu, .int .i64 es, .int .i64 eh, .int .i64 ea, .int .i64 en, .int .i64 fu, .int .i64 fs, .int .i64 fh, .int .i64 fa, .int .i64 fn, .slice B m mc]) := rfl
  rw [HV.out]
  clear HV
  obtain ⟨V3, hV3⟩ : ∃ W, w2.alloc (.cells #[.int .i64 0, .int .i64 0, .int .i64 0, .int .i64 0, .int .i64 0, .int .i64 0, .int .i64 0, .int .i64 0, .int .i64 0, .int .i64 0, .int .i64 0, .int .i64 0, .int .i64 0, .int .i64 0, .slice none 0 0] 30) = W := ⟨_, rfl⟩
  replace BT := Lib.hid (BT.out.below ((Below.refl _ _).alloc K.out.size (.cells #[.int .i64 0, .int .i64 0, .int .i64 0, .int .i64 0, .int .i64 0, .int .i64 0, .int .i64 0, .int .i64 0, .int .i64 0, .int .i64 0, .int .i64 0, .int .i64 0, .int .i64 0, .int .i64 0, .slice none 0 0] 30)))
  replace K := Lib.hid (K.out.alloc K.out.size (.cells #[.int .i64 0, .int .i64 0, .int .i64 0, .int .i64 0, .int .i64 0, .int .i64 0, .int .i64 0, .int .i64 0, .int .i64 0, .int .i64 0, .int .i64 0, .int .i64 0, .int .i64 0, .int .i64 0, .slice none 0 0] 30))
  replace R0 := Lib.hid (alloc_blk (o := .cells #[.int .i64 0, .int .i64 0, .int .i64 0, .int .i64 0, .int .i64 0, .int .i64 0, .int .i64 0, .int .i64 0, .int .i64 0, .int .i64 0, .int .i64 0, .int .i64 0, .int .i64 0, .int .i64 0, .slice none 0 0] 30) R0.out)
  replace R1 := Lib.hid (alloc_blk (o := .cells #[.int .i64 0, .int .i64 0, .int .i64 0, .int .i64 0, .int .i64 0, .int .i64 0, .int .i64 0, .int .i64 0, .int .i64 0, .int .i64 0, .int .i64 0, .int .i64 0, .int .i64 0, .int .i64 0, .slice none 0 0] 30) R1.out)
  replace C := Lib.hid (C.out.alloc (.cells #[.int .i64 0, .int .i64 0, .int .i64 0, .int .i64 0, .int .i64 0, .int .i64 0, .int .i64 0, .int .i64 0, .int .i64 0, .int .i64 0, .int .i64 0, .int .i64 0, .int .i64 0, .int .i64 0, .slice none 0 0] 30))
  replace LG := Lib.hid (LG.out.on ((Below.refl _ _).alloc (Nat.le_refl _) (.cells #[.int .i64 0, .int .i64 0, .int .i64 0, .int .i64 0, .int .i64 0, .int .i64 0, .int .i64 0, .int .i64 0, .int .i64 0, .int .i64 0, .int .i64 0, .int .i64 0, .int .i64 0, .int .i64 0, .slice none 0 0] 30)))
  replace M := Lib.hid (M.out.alloc (.cells #[.int .i64 0, .int .i64 0, .int .i64 0, .int .i64 0, .int .i64 0, .int .i64 0, .int .i64 0, .int .i64 0, .int .i64 0, .int .i64 0, .int .i64 0, .int .i64 0, .int .i64 0, .int .i64 0, .slice none 0 0] 30))
  have KS := Lib.hid (heap1 w2 (.cells #[.int .i64 0, .int .i64 0, .int .i64 0, .int .i64 0, .int .i64 0, .int .i64 0, .int .i64 0, .int .i64 0, .int .i64 0, .int .i64 0, .int .i64 0, .int .i64 0, .int .i64 0, .int .i64 0, .slice none 0 0] 30))
  rw [hV3] at BT K R0 R1 C LG M KS
  have sV3 : w2.heap.size < V3.heap.size := by rw [← hV3]; simp
  have KSo := KS
  have bs : Below w2.heap.size V3 (V3.setRow w2.heap.size #[.int .i64 st, .int .i64 sh, .int .i64 sd, .int .i64 sp, .int .i64 eu, .int .i64 es, .int .i64 eh, .int .i64 ea, .int .i64 en, .int .i64 fu, .int .i64 fs, .int .i64 fh, .int .i64 fa, .int .i64 fn, .slice B m mc]) := below_setRow (Below.refl _ _) (Nat.le_refl _) _
  have KS2 : Hid ((V3.setRow w2.heap.size #[.int .i64 st, .int .i64 sh, .int .i64 sd, .int .i64 sp, .int .i64 eu, .int .i64 es, .int .i64 eh, .int .i64 ea, .int .i64 en, .int .i64 fu, .int .i64 fs, .int .i64 fh, .int .i64 fa, .int .i64 fn, .slice B m mc]).heap[w2.heap.size]? = some (.cells #[.int .i64 st, .int .i64 sh, .int .i64 sd, .int .i64 sp, .int .i64 eu, .int .i64 es, .int .i64 eh, .int .i64 ea, .int .i64 en, .int .i64 fu, .int .i64 fs, .int .i64 fh, .int .i64 fa, .int .i64 fn, .slice B m mc] 30)) := setRow_heap _ _ _ _ _ _ KS.out
  have BT2 := Lib.hid (BT.out.below (bs.mono (by omega)))
  have K2 := Lib.hid (K.out.trans (bs.mono (by omega)))
  have R02 := Lib.hid (show (V3.setRow w2.heap.size #[.int .i64 st, .int .i64 sh, .int .i64 sd, .int .i64 sp, .int .i64 eu, .int .i64 es, .int .i64 eh, .int .i64 ea, .int .i64 en, .int .i64 fu, .int .i64 fs, .int .i64 fh, .int .i64 fa, .int .i64 fn, .slice B m mc]).heap[_]? = _ from (setRow_other _ _ _ _ (by omega)).trans R0.out)
  have R12 := Lib.hid (show (V3.setRow w2.heap.size #[.int .i64 st, .int .i64 sh, .int .i64 sd, .int .i64 sp, .int .i64 eu, .int .i64 es, .int .i64 eh, .int .i64 ea, .int .i64 en, .int .i64 fu, .int .i64 fs, .int .i64 fh, .int .i64 fa, .int .i64 fn, .slice B m mc]).heap[_]? = _ from (setRow_other _ _ _ _ (by omega)).trans R1.out)
  have C2 := Lib.hid (C.out.below (bs.mono (by omega)))
  have LG2 := Lib.hid (LG.out.heap (w' := (V3.setRow w2.heap.size #[.int .i64 st, .int .i64 sh, .int .i64 sd, .int .i64 sp, .int .i64 eu, .int .i64 es, .int .i64 eh, .int .i64 ea, .int .i64 en, .int .i64 fu, .int .i64 fs, .int .i64 fh, .int .i64 fa, .int .i64 fn, .slice B m mc])) (fun k e => setRow_other _ _ _ _ (by have := hlLG k e; omega)))
  have M2 := Lib.hid (M.out.heap (w' := (V3.setRow w2.heap.size #[.int .i64 st, .int .i64 sh, .int .i64 sd, .int .i64 sp, .int .i64 eu, .int .i64 es, .int .i64 eh, .int .i64 ea, .int .i64 en, .int .i64 fu, .int .i64 fs, .int .i64 fh, .int .i64 fa, .int .i64 fn, .slice B m mc])) (setRow_other _ _ _ _ (by have := M.out.base; omega)))
  have sR := bs.size
  go_wp2_with (first | (refine wpList_store_row rfl 30 _ _ rfl (w2.heap.size) #[.int .i64 st, .int .i64 sh, .int .i64 sd, .int .i64 sp, .int .i64 eu, .int .i64 es, .int .i64 eh, .int .i64 ea, .int .i64 en, .int .i64 fu, .int .i64 fs, .int .i64 fh, .int .i64 fa, .int .i64 fn, .slice B m mc] rfl rfl 30 _ KSo.out (by kernel_rfl) rfl (by simp [Value.oneCell']) ?_))
  clear hV3 
  generalize (V3.setRow w2.heap.size #[.int .i64 st, .int .i64 sh, .int .i64 sd, .int .i64 sp, .int .i64 eu, .int .i64 es, .int .i64 eh, .int .i64 ea, .int .i64 en, .int .i64 fu, .int .i64 fs, .int .i64 fh, .int .i64 fa, .int .i64 fn, .slice B m mc]) = S4 at KS2 BT2 K2 R02 R12 C2 LG2 M2 sR ⊢
  clear bs KSo KS BT K R0 R1 C LG M
  have KS := KS2
  have BT := BT2
  have K := K2
  have R0 := R02
  have R1 := R12
  have C := C2
  have LG := LG2
  have M := M2
  clear KS2 BT2 K2 R02 R12 C2 LG2 M2
  have sSS4 : V3.heap.size ≤ S4.heap.size := sR
  clear sR
  have hbn : (0 : Int) ≤ (bs.length : Int) := by omega
  refine (l1Once_any _ _ A n cap i1 h1 6 hn (by omega) (by omega) C.out).mono ?_
  rintro e w5 ⟨o, i5, h5, rfl, c, b⟩
  replace BT := Lib.hid (BT.out.below ((Below.refl _ _).grown b K.out.size (fun k e => by have e1 := Option.some.inj e; omega)))
  replace K := Lib.hid (below_off K.out b ⟨by omega, K.out.size⟩)
  replace R0 := Lib.hid (blk_kept b R0.out (by omega))
  replace R1 := Lib.hid (blk_kept b R1.out (by omega))
  replace C := Lib.hid c
  replace LG := Lib.hid (LG.out.kept b (fun k e e2 => by have h1 := LG.out.lt e; have h2 := Option.some.inj e2; omega))
  replace M := Lib.hid (M.out.kept b (by intro e; have e1 := Option.some.inj e; omega))
  replace KS := Lib.hid (blk_kept b KS.out (by omega))
  have sw5 := b.size
  clear b c
  cases o with
  | true =>
    go_wp2
    have pL : V1.heap.size ∉ ([w.heap.size, V0.heap.size] : List Nat) := by simp <;> omega
    have pB : w.heap.size ≤ V1.heap.size := by omega
    have pLB : ∀ k ∈ ([w.heap.size, V0.heap.size] : List Nat), w.heap.size ≤ k := by simp <;> omega
    refine wp_region_cur (W := w5) [w.heap.size, V0.heap.size] pL C.out BT.out pB pLB (fun w' => w'.heap[w.heap.size]? = some (.cells #[.int .i64 0, .int .i64 0, .int .i64 0, .int .i64 0, .int .i64 0, .int .i64 0, .int .i64 0, .int .i64 0, .int .i64 0, .int .i64 0, .int .i64 0, .int .i64 0, .int .i64 0, .int .i64 0, .slice none 0 0] 30) ∧ w'.heap[V0.heap.size]? = some (.cells #[.int .i64 0, .int .i64 0, .int .i64 0, .int .i64 0, .int .i64 0, .string ⟨#[]⟩, .bool false] 32)) (stays_and (stays_blk (E := curEnv w5 [w.heap.size, V0.heap.size] V1.heap.size A n cap pL ⟨_, _, C.out⟩ BT.out pB pLB) (Or.inr (by simp)) _) (stays_blk (Or.inr (by simp)) _)) (⟨R0.out, R1.out⟩) [0, 0, 1, 3, 3] (by kernel_rfl) (by kernel_rfl) (by kernel_rfl) ?_
    refine wpO_load_row rfl 30 _ rfl (w2.heap.size) rfl 30 _ (0, 0) _ (fun q => q.blkc KS.out (by simp; omega)) Tryz.underlying30 rfl (by kernel_rfl) ?_
    simp only [Act.put, List.setIfInBounds_toArray, List.set_cons_succ, List.set_cons_zero]
    refine wpO_quiet 1 rfl (by kernel_rfl) ?_
    simp only [List.take, List.drop]
    repeat (go_big_quiet_step (fail))
    refine wpQuiet_nil ?_
    refine wpO_callx (f := 23) (args := #[.pointer (some ⟨V1.heap.size, 0, none⟩)]) (α := BoxV) (fun x => x.val) (fun _ => []) (fun _ _ => True) rfl (fun w' => by simp [go_sem]) (fun _ => stays_true) (fun _ => ⟨.zero, fun g hg => by cases hg⟩) (fun w' hw _ => ?_) (fun x _ => ?_)
    · obtain ⟨_, i', h', c'⟩ := hw
      exact (l4DrawAny_any _ _ A n cap i' h' hn c').mono fun e w'' ⟨x, i1, h1, he, c1, b1⟩ => ⟨x, he, trivial, ⟨b1, i1, h1, c1⟩, fun k hk => by cases hk⟩
    obtain ⟨⟨yu, ys, yh, ya⟩, yn, yt, yp⟩ := x
    have HW : Hid (BoxV.val ⟨⟨yu, ys, yh, ya⟩, yn, yt, yp⟩ = .agg #[.int .i64 yu, .int .i64 ys, .int .i64 yh, .int .i64 ya, .int .i64 yn, .string yt, .bool yp]) := rfl
    rw [HW.out]
    clear HW
    simp only [Act.put, List.setIfInBounds_toArray, List.set_cons_succ, List.set_cons_zero]
    refine wpO_store (g := w.heap.size) (t := 30) (old := #[.int .i64 0, .int .i64 0, .int .i64 0, .int .i64 0, .int .i64 0, .int .i64 0, .int .i64 0, .int .i64 0, .int .i64 0, .int .i64 0, .int .i64 0, .int .i64 0, .int .i64 0, .int .i64 0, .slice none 0 0]) (fun w' => w'.heap[V0.heap.size]? = some (.cells #[.int .i64 0, .int .i64 0, .int .i64 0, .int .i64 0, .int .i64 0, .string ⟨#[]⟩, .bool false] 32)) #[.int .i64 st, .int .i64 sh, .int .i64 sd, .int .i64 sp, .int .i64 eu, .int .i64 es, .int .i64 eh, .int .i64 ea, .int .i64 en, .int .i64 fu, .int .i64 fs, .int .i64 fh, .int .i64 fa, .int .i64 fn, .slice B m mc] rfl rfl rfl rfl (Or.inr (by simp)) (by kernel_rfl) rfl rfl (fun w' h => ⟨h.1.2, h.1.1⟩) (stays_blk (Or.inr (by simp)) _) (away_blk (by omega) _) ?_
    simp only [Act.put]
    refine wpO_store (g := V0.heap.size) (t := 32) (old := #[.int .i64 0, .int .i64 0, .int .i64 0, .int .i64 0, .int .i64 0, .string ⟨#[]⟩, .bool false]) (fun w' => w'.heap[w.heap.size]? = some (.cells #[.int .i64 st, .int .i64 sh, .int .i64 sd, .int .i64 sp, .int .i64 eu, .int .i64 es, .int .i64 eh, .int .i64 ea, .int .i64 en, .int .i64 fu, .int .i64 fs, .int .i64 fh, .int .i64 fa, .int .i64 fn, .slice B m mc] 30)) #[.int .i64 yu, .int .i64 ys, .int .i64 yh, .int .i64 ya, .int .i64 yn, .string yt, .bool yp] rfl rfl rfl rfl (Or.inr (by simp)) (by kernel_rfl) rfl rfl (fun w' h => ⟨h.2, h.1⟩) (stays_blk (Or.inr (by simp)) _) (away_blk (by omega) _) ?_
    simp only [Act.put]
    refine wpO_nil ?_
    rintro w9 ⟨b9, _, _, _⟩ ⟨H0, H1⟩
    have B9 : Hid (Below w.heap.size w w9) := K.out.trans (b9.below K.out.size (by simp; omega))
    have L9 : Hid (OutE w9 w1.heap.size 49 B m mc l) := LG.out.heap (fun k e => b9.block k (LG.out.lt e).2 (by have := hlLG k e; simp; omega))
    have H0' := Lib.hid H0
    have H1' := Lib.hid H1
    clear H0 H1 b9
    go_wp2
    exact row_ret_two (r := w.heap.size) (r' := V0.heap.size) (cs := #[.int .i64 st, .int .i64 sh, .int .i64 sd, .int .i64 sp, .int .i64 eu, .int .i64 es, .int .i64 eh, .int .i64 ea, .int .i64 en, .int .i64 fu, .int .i64 fs, .int .i64 fh, .int .i64 fa, .int .i64 fn, .slice B m mc]) (cs' := #[.int .i64 yu, .int .i64 ys, .int .i64 yh, .int .i64 ya, .int .i64 yn, .string yt, .bool yp]) rfl rfl rfl H0'.out Tryz.underlying30 rfl (by kernel_rfl) H1'.out Tryz.underlying32 rfl (by kernel_rfl) rfl ⟨⟨st, sh, sd, sp, ⟨⟨eu, es, eh, ea⟩, en⟩, ⟨⟨fu, fs, fh, fa⟩, fn⟩⟩, B, m, mc, l, ⟨⟨yu, ys, yh, ya⟩, yn, yt, yp⟩, hm, rfl, L9.out.mono (by omega), B9.out⟩
  | false =>
    by_cases hb0 : bs.length = 0
    · have hbz : (bs.length : Int) = 0 := by omega
      go_wp2
      have pL : V1.heap.size ∉ ([w.heap.size, V0.heap.size] : List Nat) := by simp <;> omega
      have pB : w.heap.size ≤ V1.heap.size := by omega
      have pLB : ∀ k ∈ ([w.heap.size, V0.heap.size] : List Nat), w.heap.size ≤ k := by simp <;> omega
      refine wp_region_cur (W := w5) [w.heap.size, V0.heap.size] pL C.out BT.out pB pLB (fun w' => w'.heap[w.heap.size]? = some (.cells #[.int .i64 0, .int .i64 0, .int .i64 0, .int .i64 0, .int .i64 0, .int .i64 0, .int .i64 0, .int .i64 0, .int .i64 0, .int .i64 0, .int .i64 0, .int .i64 0, .int .i64 0, .int .i64 0, .slice none 0 0] 30) ∧ w'.heap[V0.heap.size]? = some (.cells #[.int .i64 0, .int .i64 0, .int .i64 0, .int .i64 0, .int .i64 0, .string ⟨#[]⟩, .bool false] 32)) (stays_and (stays_blk (E := curEnv w5 [w.heap.size, V0.heap.size] V1.heap.size A n cap pL ⟨_, _, C.out⟩ BT.out pB pLB) (Or.inr (by simp)) _) (stays_blk (Or.inr (by simp)) _)) (⟨R0.out, R1.out⟩) [0, 0, 1, 3, 3] (by kernel_rfl) (by kernel_rfl) (by kernel_rfl) ?_
      refine wpO_load_row rfl 30 _ rfl (w2.heap.size) rfl 30 _ (0, 0) _ (fun q => q.blkc KS.out (by simp; omega)) Tryz.underlying30 rfl (by kernel_rfl) ?_
      simp only [Act.put, List.setIfInBounds_toArray, List.set_cons_succ, List.set_cons_zero]
      refine wpO_quiet 1 rfl (by kernel_rfl) ?_
      simp only [List.take, List.drop]
      repeat (go_big_quiet_step (fail))
      refine wpQuiet_nil ?_
      refine wpO_callx (f := 23) (args := #[.pointer (some ⟨V1.heap.size, 0, none⟩)]) (α := BoxV) (fun x => x.val) (fun _ => []) (fun _ _ => True) rfl (fun w' => by simp [go_sem]) (fun _ => stays_true) (fun _ => ⟨.zero, fun g hg => by cases hg⟩) (fun w' hw _ => ?_) (fun x _ => ?_)
      · obtain ⟨_, i', h', c'⟩ := hw
        exact (l4DrawAny_any _ _ A n cap i' h' hn c').mono fun e w'' ⟨x, i1, h1, he, c1, b1⟩ => ⟨x, he, trivial, ⟨b1, i1, h1, c1⟩, fun k hk => by cases hk⟩
      obtain ⟨⟨yu, ys, yh, ya⟩, yn, yt, yp⟩ := x
      have HW : Hid (BoxV.val ⟨⟨yu, ys, yh, ya⟩, yn, yt, yp⟩ = .agg #[.int .i64 yu, .int .i64 ys, .int .i64 yh, .int .i64 ya, .int .i64 yn, .string yt, .bool yp]) := rfl
      rw [HW.out]
      clear HW
      simp only [Act.put, List.setIfInBounds_toArray, List.set_cons_succ, List.set_cons_zero]
      refine wpO_store (g := w.heap.size) (t := 30) (old := #[.int .i64 0, .int .i64 0, .int .i64 0, .int .i64 0, .int .i64 0, .int .i64 0, .int .i64 0, .int .i64 0, .int .i64 0, .int .i64 0, .int .i64 0, .int .i64 0, .int .i64 0, .int .i64 0, .slice none 0 0]) (fun w' => w'.heap[V0.heap.size]? = some (.cells #[.int .i64 0, .int .i64 0, .int .i64 0, .int .i64 0, .int .i64 0, .string ⟨#[]⟩, .bool false] 32)) #[.int .i64 st, .int .i64 sh, .int .i64 sd, .int .i64 sp, .int .i64 eu, .int .i64 es, .int .i64 eh, .int .i64 ea, .int .i64 en, .int .i64 fu, .int .i64 fs, .int .i64 fh, .int .i64 fa, .int .i64 fn, .slice B m mc] rfl rfl rfl rfl (Or.inr (by simp)) (by kernel_rfl) rfl rfl (fun w' h => ⟨h.1.2, h.1.1⟩) (stays_blk (Or.inr (by simp)) _) (away_blk (by omega) _) ?_
      simp only [Act.put]
      refine wpO_store (g := V0.heap.size) (t := 32) (old := #[.int .i64 0, .int .i64 0, .int .i64 0, .int .i64 0, .int .i64 0, .string ⟨#[]⟩, .bool false]) (fun w' => w'.heap[w.heap.size]? = some (.cells #[.int .i64 st, .int .i64 sh, .int .i64 sd, .int .i64 sp, .int .i64 eu, .int .i64 es, .int .i64 eh, .int .i64 ea, .int .i64 en, .int .i64 fu, .int .i64 fs, .int .i64 fh, .int .i64 fa, .int .i64 fn, .slice B m mc] 30)) #[.int .i64 yu, .int .i64 ys, .int .i64 yh, .int .i64 ya, .int .i64 yn, .string yt, .bool yp] rfl rfl rfl rfl (Or.inr (by simp)) (by kernel_rfl) rfl rfl (fun w' h => ⟨h.2, h.1⟩) (stays_blk (Or.inr (by simp)) _) (away_blk (by omega) _) ?_
      simp only [Act.put]
      refine wpO_nil ?_
      rintro w9 ⟨b9, _, _, _⟩ ⟨H0, H1⟩
      have B9 : Hid (Below w.heap.size w w9) := K.out.trans (b9.below K.out.size (by simp; omega))
      have L9 : Hid (OutE w9 w1.heap.size 49 B m mc l) := LG.out.heap (fun k e => b9.block k (LG.out.lt e).2 (by have := hlLG k e; simp; omega))
      have H0' := Lib.hid H0
      have H1' := Lib.hid H1
      clear H0 H1 b9
      go_wp2
      exact row_ret_two (r := w.heap.size) (r' := V0.heap.size) (cs := #[.int .i64 st, .int .i64 sh, .int .i64 sd, .int .i64 sp, .int .i64 eu, .int .i64 es, .int .i64 eh, .int .i64 ea, .int .i64 en, .int .i64 fu, .int .i64 fs, .int .i64 fh, .int .i64 fa, .int .i64 fn, .slice B m mc]) (cs' := #[.int .i64 yu, .int .i64 ys, .int .i64 yh, .int .i64 ya, .int .i64 yn, .string yt, .bool yp]) rfl rfl rfl H0'.out Tryz.underlying30 rfl (by kernel_rfl) H1'.out Tryz.underlying32 rfl (by kernel_rfl) rfl ⟨⟨st, sh, sd, sp, ⟨⟨eu, es, eh, ea⟩, en⟩, ⟨⟨fu, fs, fh, fa⟩, fn⟩⟩, B, m, mc, l, ⟨⟨yu, ys, yh, ya⟩, yn, yt, yp⟩, hm, rfl, L9.out.mono (by omega), B9.out⟩
    · have hbz : ¬ (bs.length : Int) = 0 := by omega
      go_wp2_with fail
      refine (l1Below_any _ _ A n cap i5 h5 (bs.length : Int) hn (by omega) (by omega) C.out).mono ?_
      rintro e w6 ⟨kk, i6, h6, ⟨hk0, hk1⟩, rfl, c, b⟩
      replace BT := Lib.hid (BT.out.below ((Below.refl _ _).grown b K.out.size (fun k e => by have e1 := Option.some.inj e; omega)))
      replace K := Lib.hid (below_off K.out b ⟨by omega, K.out.size⟩)
      replace R0 := Lib.hid (blk_kept b R0.out (by omega))
      replace R1 := Lib.hid (blk_kept b R1.out (by omega))
      replace C := Lib.hid c
      replace LG := Lib.hid (LG.out.kept b (fun k e e2 => by have h1 := LG.out.lt e; have h2 := Option.some.inj e2; omega))
      replace M := Lib.hid (M.out.kept b (by intro e; have e1 := Option.some.inj e; omega))
      replace KS := Lib.hid (blk_kept b KS.out (by omega))
      have sw6 := b.size
      clear b c
      obtain ⟨k, rfl⟩ := Int.eq_ofNat_of_zero_le hk0
      obtain ⟨⟨⟨xu, xs, xh, xa⟩, xn, xt, xp⟩, hx⟩ : ∃ x, bs[k]? = some x := ⟨_, List.getElem?_eq_getElem (by omega)⟩
      obtain ⟨e0, e1, e2, e3, e4, e5, e6⟩ := box_cells M.out hx
      dsimp only at e0 e1 e2 e3 e4 e5 e6
      by_cases hst : st = 2
      · have hst2 : (st == 2) = true := by rw [hst]; rfl
        by_cases hnl : m + 1 < bs.length
        · have hnli : ((m + 1 : Nat) : Int) < (bs.length : Int) := by omega
          try simp only [Int.natCast_add, Int.cast_ofNat_Int] at hnli
          obtain ⟨V7, hV7⟩ : ∃ W, w6.alloc (.cells #[.int .i64 0, .int .i64 0, .int .i64 0, .int .i64 0, .int .i64 0, .string ⟨#[]⟩, .bool false] 32) = W := ⟨_, rfl⟩
          replace BT := Lib.hid (BT.out.below ((Below.refl _ _).alloc K.out.size (.cells #[.int .i64 0, .int .i64 0, .int .i64 0, .int .i64 0, .int .i64 0, .string ⟨#[]⟩, .bool false] 32)))
          replace K := Lib.hid (K.out.alloc K.out.size (.cells #[.int .i64 0, .int .i64 0, .int .i64 0, .int .i64 0, .int .i64 0, .string ⟨#[]⟩, .bool false] 32))
          replace R0 := Lib.hid (alloc_blk (o := .cells #[.int .i64 0, .int .i64 0, .int .i64 0, .int .i64 0, .int .i64 0, .string ⟨#[]⟩, .bool false] 32) R0.out)
          replace R1 := Lib.hid (alloc_blk (o := .cells #[.int .i64 0, .int .i64 0, .int .i64 0, .int .i64 0, .int .i64 0, .string ⟨#[]⟩, .bool false] 32) R1.out)
          replace C := Lib.hid (C.out.alloc (.cells #[.int .i64 0, .int .i64 0, .int .i64 0, .int .i64 0, .int .i64 0, .string ⟨#[]⟩, .bool false] 32))
          replace LG := Lib.hid (LG.out.on ((Below.refl _ _).alloc (Nat.le_refl _) (.cells #[.int .i64 0, .int .i64 0, .int .i64 0, .int .i64 0, .int .i64 0, .string ⟨#[]⟩, .bool false] 32)))
          replace M := Lib.hid (M.out.alloc (.cells #[.int .i64 0, .int .i64 0, .int .i64 0, .int .i64 0, .int .i64 0, .string ⟨#[]⟩, .bool false] 32))
          replace KS := Lib.hid (alloc_blk (o := .cells #[.int .i64 0, .int .i64 0, .int .i64 0, .int .i64 0, .int .i64 0, .string ⟨#[]⟩, .bool false] 32) KS.out)
          have KB := Lib.hid (heap1 w6 (.cells #[.int .i64 0, .int .i64 0, .int .i64 0, .int .i64 0, .int .i64 0, .string ⟨#[]⟩, .bool false] 32))
          rw [hV7] at BT K R0 R1 C LG M KS KB
          have sV7 : w6.heap.size < V7.heap.size := by rw [← hV7]; simp
          have KBo := KB
          have bs : Below w6.heap.size V7 (V7.setRow w6.heap.size #[.int .i64 xu, .int .i64 xs, .int .i64 xh, .int .i64 xa, .int .i64 xn, .string xt, .bool xp]) := below_setRow (Below.refl _ _) (Nat.le_refl _) _
          have KB2 : Hid ((V7.setRow w6.heap.size #[.int .i64 xu, .int .i64 xs, .int .i64 xh, .int .i64 xa, .int .i64 xn, .string xt, .bool xp]).heap[w6.heap.size]? = some (.cells #[.int .i64 xu, .int .i64 xs, .int .i64 xh, .int .i64 xa, .int .i64 xn, .string xt, .bool xp] 32)) := setRow_heap _ _ _ _ _ _ KB.out
          have BT2 := Lib.hid (BT.out.below (bs.mono (by omega)))
          have K2 := Lib.hid (K.out.trans (bs.mono (by omega)))
          have R02 := Lib.hid (show (V7.setRow w6.heap.size #[.int .i64 xu, .int .i64 xs, .int .i64 xh, .int .i64 xa, .int .i64 xn, .string xt, .bool xp]).heap[_]? = _ from (setRow_other _ _ _ _ (by omega)).trans R0.out)
          have R12 := Lib.hid (show (V7.setRow w6.heap.size #[.int .i64 xu, .int .i64 xs, .int .i64 xh, .int .i64 xa, .int .i64 xn, .string xt, .bool xp]).heap[_]? = _ from (setRow_other _ _ _ _ (by omega)).trans R1.out)
          have C2 := Lib.hid (C.out.below (bs.mono (by omega)))
          have LG2 := Lib.hid (LG.out.heap (w' := (V7.setRow w6.heap.size #[.int .i64 xu, .int .i64 xs, .int .i64 xh, .int .i64 xa, .int .i64 xn, .string xt, .bool xp])) (fun k e => setRow_other _ _ _ _ (by have := hlLG k e; omega)))
          have M2 := Lib.hid (M.out.heap (w' := (V7.setRow w6.heap.size #[.int .i64 xu, .int .i64 xs, .int .i64 xh, .int .i64 xa, .int .i64 xn, .string xt, .bool xp])) (setRow_other _ _ _ _ (by have := M.out.base; omega)))
          have KS2 := Lib.hid (show (V7.setRow w6.heap.size #[.int .i64 xu, .int .i64 xs, .int .i64 xh, .int .i64 xa, .int .i64 xn, .string xt, .bool xp]).heap[_]? = _ from (setRow_other _ _ _ _ (by omega)).trans KS.out)
          have sR := bs.size
          obtain ⟨⟨q0, q1, q2, q3, q4, q5, q6, q7, q8, q9, q10, q11, q12, q13, q14⟩, _⟩ := blk15 KS2.out
          go_wp2_with (first | (refine wpList_store_row rfl 32 _ _ rfl (w6.heap.size) #[.int .i64 xu, .int .i64 xs, .int .i64 xh, .int .i64 xa, .int .i64 xn, .string xt, .bool xp] rfl rfl 32 _ KBo.out (by kernel_rfl) rfl (by simp [Value.oneCell']) ?_))
          clear hV7 q0 q1 q2 q3 q4 q5 q6 q7 q8 q9 q10 q11 q12 q13 q14
          generalize (V7.setRow w6.heap.size #[.int .i64 xu, .int .i64 xs, .int .i64 xh, .int .i64 xa, .int .i64 xn, .string xt, .bool xp]) = S8 at KB2 BT2 K2 R02 R12 C2 LG2 M2 KS2 sR ⊢
          clear bs KBo KB BT K R0 R1 C LG M KS
          have KB := KB2
          have BT := BT2
          have K := K2
          have R0 := R02
          have R1 := R12
          have C := C2
          have LG := LG2
          have M := M2
          have KS := KS2
          clear KB2 BT2 K2 R02 R12 C2 LG2 M2 KS2
          have sSS8 : V7.heap.size ≤ S8.heap.size := sR
          clear sR
          clear e0 e1 e2 e3 e4 e5 e6 hx
          refine (l1Once_any _ _ A n cap i6 h6 3 hn (by omega) (by omega) C.out).mono ?_
          rintro e w10 ⟨o2, i10, h10, rfl, c, b⟩
          replace BT := Lib.hid (BT.out.below ((Below.refl _ _).grown b K.out.size (fun k e => by have e1 := Option.some.inj e; omega)))
          replace K := Lib.hid (below_off K.out b ⟨by omega, K.out.size⟩)
          replace R0 := Lib.hid (blk_kept b R0.out (by omega))
          replace R1 := Lib.hid (blk_kept b R1.out (by omega))
          replace C := Lib.hid c
          replace LG := Lib.hid (LG.out.kept b (fun k e e2 => by have h1 := LG.out.lt e; have h2 := Option.some.inj e2; omega))
          replace M := Lib.hid (M.out.kept b (by intro e; have e1 := Option.some.inj e; omega))
          replace KS := Lib.hid (blk_kept b KS.out (by omega))
          replace KB := Lib.hid (blk_kept b KB.out (by omega))
          have sw10 := b.size
          clear b c
          cases o2 with
          | true =>
            go_wp2
            refine wp_region_own (W := w10) [w.heap.size, V0.heap.size] (fun w' => w'.heap[w.heap.size]? = some (.cells #[.int .i64 0, .int .i64 0, .int .i64 0, .int .i64 0, .int .i64 0, .int .i64 0, .int .i64 0, .int .i64 0, .int .i64 0, .int .i64 0, .int .i64 0, .int .i64 0, .int .i64 0, .int .i64 0, .slice none 0 0] 30) ∧ w'.heap[V0.heap.size]? = some (.cells #[.int .i64 0, .int .i64 0, .int .i64 0, .int .i64 0, .int .i64 0, .string ⟨#[]⟩, .bool false] 32)) (stays_and (stays_blk (E := plainEnv w10 [w.heap.size, V0.heap.size]) (Or.inr (by simp)) _) (stays_blk (Or.inr (by simp)) _)) ⟨R0.out, R1.out⟩ [0, 0, 3, 3] (by kernel_rfl) (by kernel_rfl) (by kernel_rfl) ?_
            refine wpO_load_row rfl 30 _ rfl (w2.heap.size) rfl 30 _ (0, 0) _ (fun q => q.block KS.out (by simp; omega)) Tryz.underlying30 rfl (by kernel_rfl) ?_
            simp only [Act.put, List.setIfInBounds_toArray, List.set_cons_succ, List.set_cons_zero]
            refine wpO_load_row rfl 32 _ rfl (w6.heap.size) rfl 32 _ (0, 0) _ (fun q => q.block KB.out (by simp; omega)) Tryz.underlying32 rfl (by kernel_rfl) ?_
            simp only [Act.put, List.setIfInBounds_toArray, List.set_cons_succ, List.set_cons_zero]
            refine wpO_store (g := w.heap.size) (t := 30) (old := #[.int .i64 0, .int .i64 0, .int .i64 0, .int .i64 0, .int .i64 0, .int .i64 0, .int .i64 0, .int .i64 0, .int .i64 0, .int .i64 0, .int .i64 0, .int .i64 0, .int .i64 0, .int .i64 0, .slice none 0 0]) (fun w' => w'.heap[V0.heap.size]? = some (.cells #[.int .i64 0, .int .i64 0, .int .i64 0, .int .i64 0, .int .i64 0, .string ⟨#[]⟩, .bool false] 32)) #[.int .i64 st, .int .i64 sh, .int .i64 sd, .int .i64 sp, .int .i64 eu, .int .i64 es, .int .i64 eh, .int .i64 ea, .int .i64 en, .int .i64 fu, .int .i64 fs, .int .i64 fh, .int .i64 fa, .int .i64 fn, .slice B m mc] rfl rfl rfl rfl (Or.inr (by simp)) (by kernel_rfl) rfl rfl (fun w' h => ⟨h.2, h.1⟩) (stays_blk (Or.inr (by simp)) _) (away_blk (by omega) _) ?_
            simp only [Act.put]
            refine wpO_store (g := V0.heap.size) (t := 32) (old := #[.int .i64 0, .int .i64 0, .int .i64 0, .int .i64 0, .int .i64 0, .string ⟨#[]⟩, .bool false]) (fun w' => w'.heap[w.heap.size]? = some (.cells #[.int .i64 st, .int .i64 sh, .int .i64 sd, .int .i64 sp, .int .i64 eu, .int .i64 es, .int .i64 eh, .int .i64 ea, .int .i64 en, .int .i64 fu, .int .i64 fs, .int .i64 fh, .int .i64 fa, .int .i64 fn, .slice B m mc] 30)) #[.int .i64 xu, .int .i64 xs, .int .i64 xh, .int .i64 xa, .int .i64 xn, .string xt, .bool xp] rfl rfl rfl rfl (Or.inr (by simp)) (by kernel_rfl) rfl rfl (fun w' h => ⟨h.2, h.1⟩) (stays_blk (Or.inr (by simp)) _) (away_blk (by omega) _) ?_
            simp only [Act.put]
            refine wpO_nil ?_
            rintro w9 b9 ⟨H0, H1⟩
            have B9 : Hid (Below w.heap.size w w9) := K.out.trans (KeptBut.below b9 K.out.size (by simp; omega))
            have L9 : Hid (OutE w9 w1.heap.size 49 B m mc l) := LG.out.heap (fun k e => b9.block k (LG.out.lt e).2 (by have := hlLG k e; simp; omega))
            have H0' := Lib.hid H0
            have H1' := Lib.hid H1
            clear H0 H1 b9
            go_wp2
            exact row_ret_two (r := w.heap.size) (r' := V0.heap.size) (cs := #[.int .i64 st, .int .i64 sh, .int .i64 sd, .int .i64 sp, .int .i64 eu, .int .i64 es, .int .i64 eh, .int .i64 ea, .int .i64 en, .int .i64 fu, .int .i64 fs, .int .i64 fh, .int .i64 fa, .int .i64 fn, .slice B m mc]) (cs' := #[.int .i64 xu, .int .i64 xs, .int .i64 xh, .int .i64 xa, .int .i64 xn, .string xt, .bool xp]) rfl rfl rfl H0'.out Tryz.underlying30 rfl (by kernel_rfl) H1'.out Tryz.underlying32 rfl (by kernel_rfl) rfl ⟨⟨st, sh, sd, sp, ⟨⟨eu, es, eh, ea⟩, en⟩, ⟨⟨fu, fs, fh, fa⟩, fn⟩⟩, B, m, mc, l, ⟨⟨xu, xs, xh, xa⟩, xn, xt, xp⟩, hm, rfl, L9.out.mono (by omega), B9.out⟩
          | false =>
            obtain ⟨⟨⟨vu, vs, vh, va⟩, vn, vt, vp⟩, hv⟩ : ∃ x, bs[m + 1]? = some x := ⟨_, List.getElem?_eq_getElem hnl⟩
            obtain ⟨e0, e1, e2, e3, e4, e5, e6⟩ := box_cells M.out hv
            dsimp only at e0 e1 e2 e3 e4 e5 e6
            have hnn : (0 : Int) ≤ (((m + 1 : Nat)) : Int) := by omega
            have KBo := KB
            have bs : Below w2.heap.size w10 (w10.setRow (w6.heap.size) #[.int .i64 vu, .int .i64 vs, .int .i64 vh, .int .i64 va, .int .i64 vn, .string vt, .bool vp]) := below_setRow (Below.refl _ _) (by omega) _
            have KB2 : Hid ((w10.setRow (w6.heap.size) #[.int .i64 vu, .int .i64 vs, .int .i64 vh, .int .i64 va, .int .i64 vn, .string vt, .bool vp]).heap[w6.heap.size]? = some (.cells #[.int .i64 vu, .int .i64 vs, .int .i64 vh, .int .i64 va, .int .i64 vn, .string vt, .bool vp] 32)) := setRow_heap _ _ _ _ _ _ KB.out
            have BT2 := Lib.hid (BT.out.below (bs.mono (by omega)))
            have K2 := Lib.hid (K.out.trans (bs.mono (by omega)))
            have R02 := Lib.hid (show (w10.setRow (w6.heap.size) #[.int .i64 vu, .int .i64 vs, .int .i64 vh, .int .i64 va, .int .i64 vn, .string vt, .bool vp]).heap[_]? = _ from (setRow_other _ _ _ _ (by omega)).trans R0.out)
            have R12 := Lib.hid (show (w10.setRow (w6.heap.size) #[.int .i64 vu, .int .i64 vs, .int .i64 vh, .int .i64 va, .int .i64 vn, .string vt, .bool vp]).heap[_]? = _ from (setRow_other _ _ _ _ (by omega)).trans R1.out)
            have C2 := Lib.hid (C.out.below (bs.mono (by omega)))
            have LG2 := Lib.hid (LG.out.heap (w' := (w10.setRow (w6.heap.size) #[.int .i64 vu, .int .i64 vs, .int .i64 vh, .int .i64 va, .int .i64 vn, .string vt, .bool vp])) (fun k e => setRow_other _ _ _ _ (by have := hlLG k e; omega)))
            have M2 := Lib.hid (M.out.heap (w' := (w10.setRow (w6.heap.size) #[.int .i64 vu, .int .i64 vs, .int .i64 vh, .int .i64 va, .int .i64 vn, .string vt, .bool vp])) (setRow_other _ _ _ _ (by omega)))
            have KS2 := Lib.hid (show (w10.setRow (w6.heap.size) #[.int .i64 vu, .int .i64 vs, .int .i64 vh, .int .i64 va, .int .i64 vn, .string vt, .bool vp]).heap[_]? = _ from (setRow_other _ _ _ _ (by omega)).trans KS.out)
            have sR := bs.size
            go_wp2_with (first | (refine wpList_store_row rfl 32 _ _ rfl (w6.heap.size) #[.int .i64 vu, .int .i64 vs, .int .i64 vh, .int .i64 va, .int .i64 vn, .string vt, .bool vp] rfl rfl 32 _ KBo.out (by kernel_rfl) rfl (by simp [Value.oneCell']) ?_))
            generalize (w10.setRow (w6.heap.size) #[.int .i64 vu, .int .i64 vs, .int .i64 vh, .int .i64 va, .int .i64 vn, .string vt, .bool vp]) = S11 at KB2 BT2 K2 R02 R12 C2 LG2 M2 KS2 sR ⊢
            clear bs KBo KB BT K R0 R1 C LG M KS
            have KB := KB2
            have BT := BT2
            have K := K2
            have R0 := R02
            have R1 := R12
            have C := C2
            have LG := LG2
            have M := M2
            have KS := KS2
            clear KB2 BT2 K2 R02 R12 C2 LG2 M2 KS2
            have sSS11 : w10.heap.size ≤ S11.heap.size := sR
            clear sR
            clear e0 e1 e2 e3 e4 e5 e6 hv
            go_wp2
            refine wp_region_own (W := S11) [w.heap.size, V0.heap.size] (fun w' => w'.heap[w.heap.size]? = some (.cells #[.int .i64 0, .int .i64 0, .int .i64 0, .int .i64 0, .int .i64 0, .int .i64 0, .int .i64 0, .int .i64 0, .int .i64 0, .int .i64 0, .int .i64 0, .int .i64 0, .int .i64 0, .int .i64 0, .slice none 0 0] 30) ∧ w'.heap[V0.heap.size]? = some (.cells #[.int .i64 0, .int .i64 0, .int .i64 0, .int .i64 0, .int .i64 0, .string ⟨#[]⟩, .bool false] 32)) (stays_and (stays_blk (E := plainEnv S11 [w.heap.size, V0.heap.size]) (Or.inr (by simp)) _) (stays_blk (Or.inr (by simp)) _)) ⟨R0.out, R1.out⟩ [0, 0, 3, 3] (by kernel_rfl) (by kernel_rfl) (by kernel_rfl) ?_
            refine wpO_load_row rfl 30 _ rfl (w2.heap.size) rfl 30 _ (0, 0) _ (fun q => q.block KS.out (by simp; omega)) Tryz.underlying30 rfl (by kernel_rfl) ?_
            simp only [Act.put, List.setIfInBounds_toArray, List.set_cons_succ, List.set_cons_zero]
            refine wpO_load_row rfl 32 _ rfl (w6.heap.size) rfl 32 _ (0, 0) _ (fun q => q.block KB.out (by simp; omega)) Tryz.underlying32 rfl (by kernel_rfl) ?_
            simp only [Act.put, List.setIfInBounds_toArray, List.set_cons_succ, List.set_cons_zero]
            refine wpO_store (g := w.heap.size) (t := 30) (old := #[.int .i64 0, .int .i64 0, .int .i64 0, .int .i64 0, .int .i64 0, .int .i64 0, .int .i64 0, .int .i64 0, .int .i64 0, .int .i64 0, .int .i64 0, .int .i64 0, .int .i64 0, .int .i64 0, .slice none 0 0]) (fun w' => w'.heap[V0.heap.size]? = some (.cells #[.int .i64 0, .int .i64 0, .int .i64 0, .int .i64 0, .int .i64 0, .string ⟨#[]⟩, .bool false] 32)) #[.int .i64 st, .int .i64 sh, .int .i64 sd, .int .i64 sp, .int .i64 eu, .int .i64 es, .int .i64 eh, .int .i64 ea, .int .i64 en, .int .i64 fu, .int .i64 fs, .int .i64 fh, .int .i64 fa, .int .i64 fn, .slice B m mc] rfl rfl rfl rfl (Or.inr (by simp)) (by kernel_rfl) rfl rfl (fun w' h => ⟨h.2, h.1⟩) (stays_blk (Or.inr (by simp)) _) (away_blk (by omega) _) ?_
            simp only [Act.put]
            refine wpO_store (g := V0.heap.size) (t := 32) (old := #[.int .i64 0, .int .i64 0, .int .i64 0, .int .i64 0, .int .i64 0, .string ⟨#[]⟩, .bool false]) (fun w' => w'.heap[w.heap.size]? = some (.cells #[.int .i64 st, .int .i64 sh, .int .i64 sd, .int .i64 sp, .int .i64 eu, .int .i64 es, .int .i64 eh, .int .i64 ea, .int .i64 en, .int .i64 fu, .int .i64 fs, .int .i64 fh, .int .i64 fa, .int .i64 fn, .slice B m mc] 30)) #[.int .i64 vu, .int .i64 vs, .int .i64 vh, .int .i64 va, .int .i64 vn, .string vt, .bool vp] rfl rfl rfl rfl (Or.inr (by simp)) (by kernel_rfl) rfl rfl (fun w' h => ⟨h.2, h.1⟩) (stays_blk (Or.inr (by simp)) _) (away_blk (by omega) _) ?_
            simp only [Act.put]
            refine wpO_nil ?_
            rintro w9 b9 ⟨H0, H1⟩
            have B9 : Hid (Below w.heap.size w w9) := K.out.trans (KeptBut.below b9 K.out.size (by simp; omega))
            have L9 : Hid (OutE w9 w1.heap.size 49 B m mc l) := LG.out.heap (fun k e => b9.block k (LG.out.lt e).2 (by have := hlLG k e; simp; omega))
            have H0' := Lib.hid H0
            have H1' := Lib.hid H1
            clear H0 H1 b9
            go_wp2
            exact row_ret_two (r := w.heap.size) (r' := V0.heap.size) (cs := #[.int .i64 st, .int .i64 sh, .int .i64 sd, .int .i64 sp, .int .i64 eu, .int .i64 es, .int .i64 eh, .int .i64 ea, .int .i64 en, .int .i64 fu, .int .i64 fs, .int .i64 fh, .int .i64 fa, .int .i64 fn, .slice B m mc]) (cs' := #[.int .i64 vu, .int .i64 vs, .int .i64 vh, .int .i64 va, .int .i64 vn, .string vt, .bool vp]) rfl rfl rfl H0'.out Tryz.underlying30 rfl (by kernel_rfl) H1'.out Tryz.underlying32 rfl (by kernel_rfl) rfl ⟨⟨st, sh, sd, sp, ⟨⟨eu, es, eh, ea⟩, en⟩, ⟨⟨fu, fs, fh, fa⟩, fn⟩⟩, B, m, mc, l, ⟨⟨vu, vs, vh, va⟩, vn, vt, vp⟩, hm, rfl, L9.out.mono (by omega), B9.out⟩
        · have hnli : ¬ ((m + 1 : Nat) : Int) < (bs.length : Int) := by omega
          try simp only [Int.natCast_add, Int.cast_ofNat_Int] at hnli
          obtain ⟨V7, hV7⟩ : ∃ W, w6.alloc (.cells #[.int .i64 0, .int .i64 0, .int .i64 0, .int .i64 0, .int .i64 0, .string ⟨#[]⟩, .bool false] 32) = W := ⟨_, rfl⟩
          replace BT := Lib.hid (BT.out.below ((Below.refl _ _).alloc K.out.size (.cells #[.int .i64 0, .int .i64 0, .int .i64 0, .int .i64 0, .int .i64 0, .string ⟨#[]⟩, .bool false] 32)))
          replace K := Lib.hid (K.out.alloc K.out.size (.cells #[.int .i64 0, .int .i64 0, .int .i64 0, .int .i64 0, .int .i64 0, .string ⟨#[]⟩, .bool false] 32))
          replace R0 := Lib.hid (alloc_blk (o := .cells #[.int .i64 0, .int .i64 0, .int .i64 0, .int .i64 0, .int .i64 0, .string ⟨#[]⟩, .bool false] 32) R0.out)
          replace R1 := Lib.hid (alloc_blk (o := .cells #[.int .i64 0, .int .i64 0, .int .i64 0, .int .i64 0, .int .i64 0, .string ⟨#[]⟩, .bool false] 32) R1.out)
          replace C := Lib.hid (C.out.alloc (.cells #[.int .i64 0, .int .i64 0, .int .i64 0, .int .i64 0, .int .i64 0, .string ⟨#[]⟩, .bool false] 32))
          replace LG := Lib.hid (LG.out.on ((Below.refl _ _).alloc (Nat.le_refl _) (.cells #[.int .i64 0, .int .i64 0, .int .i64 0, .int .i64 0, .int .i64 0, .string ⟨#[]⟩, .bool false] 32)))
          replace M := Lib.hid (M.out.alloc (.cells #[.int .i64 0, .int .i64 0, .int .i64 0, .int .i64 0, .int .i64 0, .string ⟨#[]⟩, .bool false] 32))
          replace KS := Lib.hid (alloc_blk (o := .cells #[.int .i64 0, .int .i64 0, .int .i64 0, .int .i64 0, .int .i64 0, .string ⟨#[]⟩, .bool false] 32) KS.out)
          have KB := Lib.hid (heap1 w6 (.cells #[.int .i64 0, .int .i64 0, .int .i64 0, .int .i64 0, .int .i64 0, .string ⟨#[]⟩, .bool false] 32))
          rw [hV7] at BT K R0 R1 C LG M KS KB
          have sV7 : w6.heap.size < V7.heap.size := by rw [← hV7]; simp
          have KBo := KB
          have bs : Below w6.heap.size V7 (V7.setRow w6.heap.size #[.int .i64 xu, .int .i64 xs, .int .i64 xh, .int .i64 xa, .int .i64 xn, .string xt, .bool xp]) := below_setRow (Below.refl _ _) (Nat.le_refl _) _
          have KB2 : Hid ((V7.setRow w6.heap.size #[.int .i64 xu, .int .i64 xs, .int .i64 xh, .int .i64 xa, .int .i64 xn, .string xt, .bool xp]).heap[w6.heap.size]? = some (.cells #[.int .i64 xu, .int .i64 xs, .int .i64 xh, .int .i64 xa, .int .i64 xn, .string xt, .bool xp] 32)) := setRow_heap _ _ _ _ _ _ KB.out
          have BT2 := Lib.hid (BT.out.below (bs.mono (by omega)))
          have K2 := Lib.hid (K.out.trans (bs.mono (by omega)))
          have R02 := Lib.hid (show (V7.setRow w6.heap.size #[.int .i64 xu, .int .i64 xs, .int .i64 xh, .int .i64 xa, .int .i64 xn, .string xt, .bool xp]).heap[_]? = _ from (setRow_other _ _ _ _ (by omega)).trans R0.out)
          have R12 := Lib.hid (show (V7.setRow w6.heap.size #[.int .i64 xu, .int .i64 xs, .int .i64 xh, .int .i64 xa, .int .i64 xn, .string xt, .bool xp]).heap[_]? = _ from (setRow_other _ _ _ _ (by omega)).trans R1.out)
          have C2 := Lib.hid (C.out.below (bs.mono (by omega)))
          have LG2 := Lib.hid (LG.out.heap (w' := (V7.setRow w6.heap.size #[.int .i64 xu, .int .i64 xs, .int .i64 xh, .int .i64 xa, .int .i64 xn, .string xt, .bool xp])) (fun k e => setRow_other _ _ _ _ (by have := hlLG k e; omega)))
          have M2 := Lib.hid (M.out.heap (w' := (V7.setRow w6.heap.size #[.int .i64 xu, .int .i64 xs, .int .i64 xh, .int .i64 xa, .int .i64 xn, .string xt, .bool xp])) (setRow_other _ _ _ _ (by have := M.out.base; omega)))
          have KS2 := Lib.hid (show (V7.setRow w6.heap.size #[.int .i64 xu, .int .i64 xs, .int .i64 xh, .int .i64 xa, .int .i64 xn, .string xt, .bool xp]).heap[_]? = _ from (setRow_other _ _ _ _ (by omega)).trans KS.out)
          have sR := bs.size
          obtain ⟨⟨q0, q1, q2, q3, q4, q5, q6, q7, q8, q9, q10, q11, q12, q13, q14⟩, _⟩ := blk15 KS2.out
          go_wp2_with (first | (refine wpList_store_row rfl 32 _ _ rfl (w6.heap.size) #[.int .i64 xu, .int .i64 xs, .int .i64 xh, .int .i64 xa, .int .i64 xn, .string xt, .bool xp] rfl rfl 32 _ KBo.out (by kernel_rfl) rfl (by simp [Value.oneCell']) ?_))
          clear hV7 q0 q1 q2 q3 q4 q5 q6 q7 q8 q9 q10 q11 q12 q13 q14
          generalize (V7.setRow w6.heap.size #[.int .i64 xu, .int .i64 xs, .int .i64 xh, .int .i64 xa, .int .i64 xn, .string xt, .bool xp]) = S8 at KB2 BT2 K2 R02 R12 C2 LG2 M2 KS2 sR ⊢
          clear bs KBo KB BT K R0 R1 C LG M KS
          have KB := KB2
          have BT := BT2
          have K := K2
          have R0 := R02
          have R1 := R12
          have C := C2
          have LG := LG2
          have M := M2
          have KS := KS2
          clear KB2 BT2 K2 R02 R12 C2 LG2 M2 KS2
          have sSS8 : V7.heap.size ≤ S8.heap.size := sR
          clear sR
          clear e0 e1 e2 e3 e4 e5 e6 hx
          go_wp2
          refine wp_region_own (W := S8) [w.heap.size, V0.heap.size] (fun w' => w'.heap[w.heap.size]? = some (.cells #[.int .i64 0, .int .i64 0, .int .i64 0, .int .i64 0, .int .i64 0, .int .i64 0, .int .i64 0, .int .i64 0, .int .i64 0, .int .i64 0, .int .i64 0, .int .i64 0, .int .i64 0, .int .i64 0, .slice none 0 0] 30) ∧ w'.heap[V0.heap.size]? = some (.cells #[.int .i64 0, .int .i64 0, .int .i64 0, .int .i64 0, .int .i64 0, .string ⟨#[]⟩, .bool false] 32)) (stays_and (stays_blk (E := plainEnv S8 [w.heap.size, V0.heap.size]) (Or.inr (by simp)) _) (stays_blk (Or.inr (by simp)) _)) ⟨R0.out, R1.out⟩ [0, 0, 3, 3] (by kernel_rfl) (by kernel_rfl) (by kernel_rfl) ?_
          refine wpO_load_row rfl 30 _ rfl (w2.heap.size) rfl 30 _ (0, 0) _ (fun q => q.block KS.out (by simp; omega)) Tryz.underlying30 rfl (by kernel_rfl) ?_
          simp only [Act.put, List.setIfInBounds_toArray, List.set_cons_succ, List.set_cons_zero]
          refine wpO_load_row rfl 32 _ rfl (w6.heap.size) rfl 32 _ (0, 0) _ (fun q => q.block KB.out (by simp; omega)) Tryz.underlying32 rfl (by kernel_rfl) ?_
          simp only [Act.put, List.setIfInBounds_toArray, List.set_cons_succ, List.set_cons_zero]
          refine wpO_store (g := w.heap.size) (t := 30) (old := #[.int .i64 0, .int .i64 0, .int .i64 0, .int .i64 0, .int .i64 0, .int .i64 0, .int .i64 0, .int .i64 0, .int .i64 0, .int .i64 0, .int .i64 0, .int .i64 0, .int .i64 0, .int .i64 0, .slice none 0 0]) (fun w' => w'.heap[V0.heap.size]? = some (.cells #[.int .i64 0, .int .i64 0, .int .i64 0, .int .i64 0, .int .i64 0, .string ⟨#[]⟩, .bool false] 32)) #[.int .i64 st, .int .i64 sh, .int .i64 sd, .int .i64 sp, .int .i64 eu, .int .i64 es, .int .i64 eh, .int .i64 ea, .int .i64 en, .int .i64 fu, .int .i64 fs, .int .i64 fh, .int .i64 fa, .int .i64 fn, .slice B m mc] rfl rfl rfl rfl (Or.inr (by simp)) (by kernel_rfl) rfl rfl (fun w' h => ⟨h.2, h.1⟩) (stays_blk (Or.inr (by simp)) _) (away_blk (by omega) _) ?_
          simp only [Act.put]
          refine wpO_store (g := V0.heap.size) (t := 32) (old := #[.int .i64 0, .int .i64 0, .int .i64 0, .int .i64 0, .int .i64 0, .string ⟨#[]⟩, .bool false]) (fun w' => w'.heap[w.heap.size]? = some (.cells #[.int .i64 st, .int .i64 sh, .int .i64 sd, .int .i64 sp, .int .i64 eu, .int .i64 es, .int .i64 eh, .int .i64 ea, .int .i64 en, .int .i64 fu, .int .i64 fs, .int .i64 fh, .int .i64 fa, .int .i64 fn, .slice B m mc] 30)) #[.int .i64 xu, .int .i64 xs, .int .i64 xh, .int .i64 xa, .int .i64 xn, .string xt, .bool xp] rfl rfl rfl rfl (Or.inr (by simp)) (by kernel_rfl) rfl rfl (fun w' h => ⟨h.2, h.1⟩) (stays_blk (Or.inr (by simp)) _) (away_blk (by omega) _) ?_
          simp only [Act.put]
          refine wpO_nil ?_
          rintro w9 b9 ⟨H0, H1⟩
          have B9 : Hid (Below w.heap.size w w9) := K.out.trans (KeptBut.below b9 K.out.size (by simp; omega))
          have L9 : Hid (OutE w9 w1.heap.size 49 B m mc l) := LG.out.heap (fun k e => b9.block k (LG.out.lt e).2 (by have := hlLG k e; simp; omega))
          have H0' := Lib.hid H0
          have H1' := Lib.hid H1
          clear H0 H1 b9
          go_wp2
          exact row_ret_two (r := w.heap.size) (r' := V0.heap.size) (cs := #[.int .i64 st, .int .i64 sh, .int .i64 sd, .int .i64 sp, .int .i64 eu, .int .i64 es, .int .i64 eh, .int .i64 ea, .int .i64 en, .int .i64 fu, .int .i64 fs, .int .i64 fh, .int .i64 fa, .int .i64 fn, .slice B m mc]) (cs' := #[.int .i64 xu, .int .i64 xs, .int .i64 xh, .int .i64 xa, .int .i64 xn, .string xt, .bool xp]) rfl rfl rfl H0'.out Tryz.underlying30 rfl (by kernel_rfl) H1'.out Tryz.underlying32 rfl (by kernel_rfl) rfl ⟨⟨st, sh, sd, sp, ⟨⟨eu, es, eh, ea⟩, en⟩, ⟨⟨fu, fs, fh, fa⟩, fn⟩⟩, B, m, mc, l, ⟨⟨xu, xs, xh, xa⟩, xn, xt, xp⟩, hm, rfl, L9.out.mono (by omega), B9.out⟩
      · have hst2 : (st == 2) = false := by rw [beq_eq_false_iff_ne]; exact hst
        by_cases hnl : m < bs.length
        · have hnli : ((m : Nat) : Int) < (bs.length : Int) := by omega
          try simp only [Int.natCast_add, Int.cast_ofNat_Int] at hnli
          obtain ⟨V7, hV7⟩ : ∃ W, w6.alloc (.cells #[.int .i64 0, .int .i64 0, .int .i64 0, .int .i64 0, .int .i64 0, .string ⟨#[]⟩, .bool false] 32) = W := ⟨_, rfl⟩
          replace BT := Lib.hid (BT.out.below ((Below.refl _ _).alloc K.out.size (.cells #[.int .i64 0, .int .i64 0, .int .i64 0, .int .i64 0, .int .i64 0, .string ⟨#[]⟩, .bool false] 32)))
          replace K := Lib.hid (K.out.alloc K.out.size (.cells #[.int .i64 0, .int .i64 0, .int .i64 0, .int .i64 0, .int .i64 0, .string ⟨#[]⟩, .bool false] 32))
          replace R0 := Lib.hid (alloc_blk (o := .cells #[.int .i64 0, .int .i64 0, .int .i64 0, .int .i64 0, .int .i64 0, .string ⟨#[]⟩, .bool false] 32) R0.out)
          replace R1 := Lib.hid (alloc_blk (o := .cells #[.int .i64 0, .int .i64 0, .int .i64 0, .int .i64 0, .int .i64 0, .string ⟨#[]⟩, .bool false] 32) R1.out)
          replace C := Lib.hid (C.out.alloc (.cells #[.int .i64 0, .int .i64 0, .int .i64 0, .int .i64 0, .int .i64 0, .string ⟨#[]⟩, .bool false] 32))
          replace LG := Lib.hid (LG.out.on ((Below.refl _ _).alloc (Nat.le_refl _) (.cells #[.int .i64 0, .int .i64 0, .int .i64 0, .int .i64 0, .int .i64 0, .string ⟨#[]⟩, .bool false] 32)))
          replace M := Lib.hid (M.out.alloc (.cells #[.int .i64 0, .int .i64 0, .int .i64 0, .int .i64 0, .int .i64 0, .string ⟨#[]⟩, .bool false] 32))
          replace KS := Lib.hid (alloc_blk (o := .cells #[.int .i64 0, .int .i64 0, .int .i64 0, .int .i64 0, .int .i64 0, .string ⟨#[]⟩, .bool false] 32) KS.out)
          have KB := Lib.hid (heap1 w6 (.cells #[.int .i64 0, .int .i64 0, .int .i64 0, .int .i64 0, .int .i64 0, .string ⟨#[]⟩, .bool false] 32))
          rw [hV7] at BT K R0 R1 C LG M KS KB
          have sV7 : w6.heap.size < V7.heap.size := by rw [← hV7]; simp
          have KBo := KB
          have bs : Below w6.heap.size V7 (V7.setRow w6.heap.size #[.int .i64 xu, .int .i64 xs, .int .i64 xh, .int .i64 xa, .int .i64 xn, .string xt, .bool xp]) := below_setRow (Below.refl _ _) (Nat.le_refl _) _
          have KB2 : Hid ((V7.setRow w6.heap.size #[.int .i64 xu, .int .i64 xs, .int .i64 xh, .int .i64 xa, .int .i64 xn, .string xt, .bool xp]).heap[w6.heap.size]? = some (.cells #[.int .i64 xu, .int .i64 xs, .int .i64 xh, .int .i64 xa, .int .i64 xn, .string xt, .bool xp] 32)) := setRow_heap _ _ _ _ _ _ KB.out
          have BT2 := Lib.hid (BT.out.below (bs.mono (by omega)))
          have K2 := Lib.hid (K.out.trans (bs.mono (by omega)))
          have R02 := Lib.hid (show (V7.setRow w6.heap.size #[.int .i64 xu, .int .i64 xs, .int .i64 xh, .int .i64 xa, .int .i64 xn, .string xt, .bool xp]).heap[_]? = _ from (setRow_other _ _ _ _ (by omega)).trans R0.out)
          have R12 := Lib.hid (show (V7.setRow w6.heap.size #[.int .i64 xu, .int .i64 xs, .int .i64 xh, .int .i64 xa, .int .i64 xn, .string xt, .bool xp]).heap[_]? = _ from (setRow_other _ _ _ _ (by omega)).trans R1.out)
          have C2 := Lib.hid (C.out.below (bs.mono (by omega)))
          have LG2 := Lib.hid (LG.out.heap (w' := (V7.setRow w6.heap.size #[.int .i64 xu, .int .i64 xs, .int .i64 xh, .int .i64 xa, .int .i64 xn, .string xt, .bool xp])) (fun k e => setRow_other _ _ _ _ (by have := hlLG k e; omega)))
          have M2 := Lib.hid (M.out.heap (w' := (V7.setRow w6.heap.size #[.int .i64 xu, .int .i64 xs, .int .i64 xh, .int .i64 xa, .int .i64 xn, .string xt, .bool xp])) (setRow_other _ _ _ _ (by have := M.out.base; omega)))
          have KS2 := Lib.hid (show (V7.setRow w6.heap.size #[.int .i64 xu, .int .i64 xs, .int .i64 xh, .int .i64 xa, .int .i64 xn, .string xt, .bool xp]).heap[_]? = _ from (setRow_other _ _ _ _ (by omega)).trans KS.out)
          have sR := bs.size
          obtain ⟨⟨q0, q1, q2, q3, q4, q5, q6, q7, q8, q9, q10, q11, q12, q13, q14⟩, _⟩ := blk15 KS2.out
          go_wp2_with (first | (refine wpList_store_row rfl 32 _ _ rfl (w6.heap.size) #[.int .i64 xu, .int .i64 xs, .int .i64 xh, .int .i64 xa, .int .i64 xn, .string xt, .bool xp] rfl rfl 32 _ KBo.out (by kernel_rfl) rfl (by simp [Value.oneCell']) ?_))
          clear hV7 q0 q1 q2 q3 q4 q5 q6 q7 q8 q9 q10 q11 q12 q13 q14
          generalize (V7.setRow w6.heap.size #[.int .i64 xu, .int .i64 xs, .int .i64 xh, .int .i64 xa, .int .i64 xn, .string xt, .bool xp]) = S8 at KB2 BT2 K2 R02 R12 C2 LG2 M2 KS2 sR ⊢
          clear bs KBo KB BT K R0 R1 C LG M KS
          have KB := KB2
          have BT := BT2
          have K := K2
          have R0 := R02
          have R1 := R12
          have C := C2
          have LG := LG2
          have M := M2
          have KS := KS2
          clear KB2 BT2 K2 R02 R12 C2 LG2 M2 KS2
          have sSS8 : V7.heap.size ≤ S8.heap.size := sR
          clear sR
          clear e0 e1 e2 e3 e4 e5 e6 hx
          refine (l1Once_any _ _ A n cap i6 h6 3 hn (by omega) (by omega) C.out).mono ?_
          rintro e w10 ⟨o2, i10, h10, rfl, c, b⟩
          replace BT := Lib.hid (BT.out.below ((Below.refl _ _).grown b K.out.size (fun k e => by have e1 := Option.some.inj e; omega)))
          replace K := Lib.hid (below_off K.out b ⟨by omega, K.out.size⟩)
          replace R0 := Lib.hid (blk_kept b R0.out (by omega))
          replace R1 := Lib.hid (blk_kept b R1.out (by omega))
          replace C := Lib.hid c
          replace LG := Lib.hid (LG.out.kept b (fun k e e2 => by have h1 := LG.out.lt e; have h2 := Option.some.inj e2; omega))
          replace M := Lib.hid (M.out.kept b (by intro e; have e1 := Option.some.inj e; omega))
          replace KS := Lib.hid (blk_kept b KS.out (by omega))
          replace KB := Lib.hid (blk_kept b KB.out (by omega))
          have sw10 := b.size
          clear b c
          cases o2 with
          | true =>
            go_wp2
            refine wp_region_own (W := w10) [w.heap.size, V0.heap.size] (fun w' => w'.heap[w.heap.size]? = some (.cells #[.int .i64 0, .int .i64 0, .int .i64 0, .int .i64 0, .int .i64 0, .int .i64 0, .int .i64 0, .int .i64 0, .int .i64 0, .int .i64 0, .int .i64 0, .int .i64 0, .int .i64 0, .int .i64 0, .slice none 0 0] 30) ∧ w'.heap[V0.heap.size]? = some (.cells #[.int .i64 0, .int .i64 0, .int .i64 0, .int .i64 0, .int .i64 0, .string ⟨#[]⟩, .bool false] 32)) (stays_and (stays_blk (E := plainEnv w10 [w.heap.size, V0.heap.size]) (Or.inr (by simp)) _) (stays_blk (Or.inr (by simp)) _)) ⟨R0.out, R1.out⟩ [0, 0, 3, 3] (by kernel_rfl) (by kernel_rfl) (by kernel_rfl) ?_
            refine wpO_load_row rfl 30 _ rfl (w2.heap.size) rfl 30 _ (0, 0) _ (fun q => q.block KS.out (by simp; omega)) Tryz.underlying30 rfl (by kernel_rfl) ?_
            simp only [Act.put, List.setIfInBounds_toArray, List.set_cons_succ, List.set_cons_zero]
            refine wpO_load_row rfl 32 _ rfl (w6.heap.size) rfl 32 _ (0, 0) _ (fun q => q.block KB.out (by simp; omega)) Tryz.underlying32 rfl (by kernel_rfl) ?_
            simp only [Act.put, List.setIfInBounds_toArray, List.set_cons_succ, List.set_cons_zero]
            refine wpO_store (g := w.heap.size) (t := 30) (old := #[.int .i64 0, .int .i64 0, .int .i64 0, .int .i64 0, .int .i64 0, .int .i64 0, .int .i64 0, .int .i64 0, .int .i64 0, .int .i64 0, .int .i64 0, .int .i64 0, .int .i64 0, .int .i64 0, .slice none 0 0]) (fun w' => w'.heap[V0.heap.size]? = some (.cells #[.int .i64 0, .int .i64 0, .int .i64 0, .int .i64 0, .int .i64 0, .string ⟨#[]⟩, .bool false] 32)) #[.int .i64 st, .int .i64 sh, .int .i64 sd, .int .i64 sp, .int .i64 eu, .int .i64 es, .int .i64 eh, .int .i64 ea, .int .i64 en, .int .i64 fu, .int .i64 fs, .int .i64 fh, .int .i64 fa, .int .i64 fn, .slice B m mc] rfl rfl rfl rfl (Or.inr (by simp)) (by kernel_rfl) rfl rfl (fun w' h => ⟨h.2, h.1⟩) (stays_blk (Or.inr (by simp)) _) (away_blk (by omega) _) ?_
            simp only [Act.put]
            refine wpO_store (g := V0.heap.size) (t := 32) (old := #[.int .i64 0, .int .i64 0, .int .i64 0, .int .i64 0, .int .i64 0, .string ⟨#[]⟩, .bool false]) (fun w' => w'.heap[w.heap.size]? = some (.cells #[.int .i64 st, .int .i64 sh, .int .i64 sd, .int .i64 sp, .int .i64 eu, .int .i64 es, .int .i64 eh, .int .i64 ea, .int .i64 en, .int .i64 fu, .int .i64 fs, .int .i64 fh, .int .i64 fa, .int .i64 fn, .slice B m mc] 30)) #[.int .i64 xu, .int .i64 xs, .int .i64 xh, .int .i64 xa, .int .i64 xn, .string xt, .bool xp] rfl rfl rfl rfl (Or.inr (by simp)) (by kernel_rfl) rfl rfl (fun w' h => ⟨h.2, h.1⟩) (stays_blk (Or.inr (by simp)) _) (away_blk (by omega) _) ?_
            simp only [Act.put]
            refine wpO_nil ?_
            rintro w9 b9 ⟨H0, H1⟩
            have B9 : Hid (Below w.heap.size w w9) := K.out.trans (KeptBut.below b9 K.out.size (by simp; omega))
            have L9 : Hid (OutE w9 w1.heap.size 49 B m mc l) := LG.out.heap (fun k e => b9.block k (LG.out.lt e).2 (by have := hlLG k e; simp; omega))
            have H0' := Lib.hid H0
            have H1' := Lib.hid H1
            clear H0 H1 b9
            go_wp2
            exact row_ret_two (r := w.heap.size) (r' := V0.heap.size) (cs := #[.int .i64 st, .int .i64 sh, .int .i64 sd, .int .i64 sp, .int .i64 eu, .int .i64 es, .int .i64 eh, .int .i64 ea, .int .i64 en, .int .i64 fu, .int .i64 fs, .int .i64 fh, .int .i64 fa, .int .i64 fn, .slice B m mc]) (cs' := #[.int .i64 xu, .int .i64 xs, .int .i64 xh, .int .i64 xa, .int .i64 xn, .string xt, .bool xp]) rfl rfl rfl H0'.out Tryz.underlying30 rfl (by kernel_rfl) H1'.out Tryz.underlying32 rfl (by kernel_rfl) rfl ⟨⟨st, sh, sd, sp, ⟨⟨eu, es, eh, ea⟩, en⟩, ⟨⟨fu, fs, fh, fa⟩, fn⟩⟩, B, m, mc, l, ⟨⟨xu, xs, xh, xa⟩, xn, xt, xp⟩, hm, rfl, L9.out.mono (by omega), B9.out⟩
          | false =>
            obtain ⟨⟨⟨vu, vs, vh, va⟩, vn, vt, vp⟩, hv⟩ : ∃ x, bs[m]? = some x := ⟨_, List.getElem?_eq_getElem hnl⟩
            obtain ⟨e0, e1, e2, e3, e4, e5, e6⟩ := box_cells M.out hv
            dsimp only at e0 e1 e2 e3 e4 e5 e6
            have hnn : (0 : Int) ≤ (((m : Nat)) : Int) := by omega
            have KBo := KB
            have bs : Below w2.heap.size w10 (w10.setRow (w6.heap.size) #[.int .i64 vu, .int .i64 vs, .int .i64 vh, .int .i64 va, .int .i64 vn, .string vt, .bool vp]) := below_setRow (Below.refl _ _) (by omega) _
            have KB2 : Hid ((w10.setRow (w6.heap.size) #[.int .i64 vu, .int .i64 vs, .int .i64 vh, .int .i64 va, .int .i64 vn, .string vt, .bool vp]).heap[w6.heap.size]? = some (.cells #[.int .i64 vu, .int .i64 vs, .int .i64 vh, .int .i64 va, .int .i64 vn, .string vt, .bool vp] 32)) := setRow_heap _ _ _ _ _ _ KB.out
            have BT2 := Lib.hid (BT.out.below (bs.mono (by omega)))
            have K2 := Lib.hid (K.out.trans (bs.mono (by omega)))
            have R02 := Lib.hid (show (w10.setRow (w6.heap.size) #[.int .i64 vu, .int .i64 vs, .int .i64 vh, .int .i64 va, .int .i64 vn, .string vt, .bool vp]).heap[_]? = _ from (setRow_other _ _ _ _ (by omega)).trans R0.out)
            have R12 := Lib.hid (show (w10.setRow (w6.heap.size) #[.int .i64 vu, .int .i64 vs, .int .i64 vh, .int .i64 va, .int .i64 vn, .string vt, .bool vp]).heap[_]? = _ from (setRow_other _ _ _ _ (by omega)).trans R1.out)
            have C2 := Lib.hid (C.out.below (bs.mono (by omega)))
            have LG2 := Lib.hid (LG.out.heap (w' := (w10.setRow (w6.heap.size) #[.int .i64 vu, .int .i64 vs, .int .i64 vh, .int .i64 va, .int .i64 vn, .string vt, .bool vp])) (fun k e => setRow_other _ _ _ _ (by have := hlLG k e; omega)))
            have M2 := Lib.hid (M.out.heap (w' := (w10.setRow (w6.heap.size) #[.int .i64 vu, .int .i64 vs, .int .i64 vh, .int .i64 va, .int .i64 vn, .string vt, .bool vp])) (setRow_other _ _ _ _ (by omega)))
            have KS2 := Lib.hid (show (w10.setRow (w6.heap.size) #[.int .i64 vu, .int .i64 vs, .int .i64 vh, .int .i64 va, .int .i64 vn, .string vt, .bool vp]).heap[_]? = _ from (setRow_other _ _ _ _ (by omega)).trans KS.out)
            have sR := bs.size
            go_wp2_with (first | (refine wpList_store_row rfl 32 _ _ rfl (w6.heap.size) #[.int .i64 vu, .int .i64 vs, .int .i64 vh, .int .i64 va, .int .i64 vn, .string vt, .bool vp] rfl rfl 32 _ KBo.out (by kernel_rfl) rfl (by simp [Value.oneCell']) ?_))
            generalize (w10.setRow (w6.heap.size) #[.int .i64 vu, .int .i64 vs, .int .i64 vh, .int .i64 va, .int .i64 vn, .string vt, .bool vp]) = S11 at KB2 BT2 K2 R02 R12 C2 LG2 M2 KS2 sR ⊢
            clear bs KBo KB BT K R0 R1 C LG M KS
            have KB := KB2
            have BT := BT2
            have K := K2
            have R0 := R02
            have R1 := R12
            have C := C2
            have LG := LG2
            have M := M2
            have KS := KS2
            clear KB2 BT2 K2 R02 R12 C2 LG2 M2 KS2
            have sSS11 : w10.heap.size ≤ S11.heap.size := sR
            clear sR
            clear e0 e1 e2 e3 e4 e5 e6 hv
            go_wp2
            refine wp_region_own (W := S11) [w.heap.size, V0.heap.size] (fun w' => w'.heap[w.heap.size]? = some (.cells #[.int .i64 0, .int .i64 0, .int .i64 0, .int .i64 0, .int .i64 0, .int .i64 0, .int .i64 0, .int .i64 0, .int .i64 0, .int .i64 0, .int .i64 0, .int .i64 0, .int .i64 0, .int .i64 0, .slice none 0 0] 30) ∧ w'.heap[V0.heap.size]? = some (.cells #[.int .i64 0, .int .i64 0, .int .i64 0, .int .i64 0, .int .i64 0, .string ⟨#[]⟩, .bool false] 32)) (stays_and (stays_blk (E := plainEnv S11 [w.heap.size, V0.heap.size]) (Or.inr (by simp)) _) (stays_blk (Or.inr (by simp)) _)) ⟨R0.out, R1.out⟩ [0, 0, 3, 3] (by kernel_rfl) (by kernel_rfl) (by kernel_rfl) ?_
            refine wpO_load_row rfl 30 _ rfl (w2.heap.size) rfl 30 _ (0, 0) _ (fun q => q.block KS.out (by simp; omega)) Tryz.underlying30 rfl (by kernel_rfl) ?_
            simp only [Act.put, List.setIfInBounds_toArray, List.set_cons_succ, List.set_cons_zero]
            refine wpO_load_row rfl 32 _ rfl (w6.heap.size) rfl 32 _ (0, 0) _ (fun q => q.block KB.out (by simp; omega)) Tryz.underlying32 rfl (by kernel_rfl) ?_
            simp only [Act.put, List.setIfInBounds_toArray, List.set_cons_succ, List.set_cons_zero]
            refine wpO_store (g := w.heap.size) (t := 30) (old := #[.int .i64 0, .int .i64 0, .int .i64 0, .int .i64 0, .int .i64 0, .int .i64 0, .int .i64 0, .int .i64 0, .int .i64 0, .int .i64 0, .int .i64 0, .int .i64 0, .int .i64 0, .int .i64 0, .slice none 0 0]) (fun w' => w'.heap[V0.heap.size]? = some (.cells #[.int .i64 0, .int .i64 0, .int .i64 0, .int .i64 0, .int .i64 0, .string ⟨#[]⟩, .bool false] 32)) #[.int .i64 st, .int .i64 sh, .int .i64 sd, .int .i64 sp, .int .i64 eu, .int .i64 es, .int .i64 eh, .int .i64 ea, .int .i64 en, .int .i64 fu, .int .i64 fs, .int .i64 fh, .int .i64 fa, .int .i64 fn, .slice B m mc] rfl rfl rfl rfl (Or.inr (by simp)) (by kernel_rfl) rfl rfl (fun w' h => ⟨h.2, h.1⟩) (stays_blk (Or.inr (by simp)) _) (away_blk (by omega) _) ?_
            simp only [Act.put]
            refine wpO_store (g := V0.heap.size) (t := 32) (old := #[.int .i64 0, .int .i64 0, .int .i64 0, .int .i64 0, .int .i64 0, .string ⟨#[]⟩, .bool false]) (fun w' => w'.heap[w.heap.size]? = some (.cells #[.int .i64 st, .int .i64 sh, .int .i64 sd, .int .i64 sp, .int .i64 eu, .int .i64 es, .int .i64 eh, .int .i64 ea, .int .i64 en, .int .i64 fu, .int .i64 fs, .int .i64 fh, .int .i64 fa, .int .i64 fn, .slice B m mc] 30)) #[.int .i64 vu, .int .i64 vs, .int .i64 vh, .int .i64 va, .int .i64 vn, .string vt, .bool vp] rfl rfl rfl rfl (Or.inr (by simp)) (by kernel_rfl) rfl rfl (fun w' h => ⟨h.2, h.1⟩) (stays_blk (Or.inr (by simp)) _) (away_blk (by omega) _) ?_
            simp only [Act.put]
            refine wpO_nil ?_
            rintro w9 b9 ⟨H0, H1⟩
            have B9 : Hid (Below w.heap.size w w9) := K.out.trans (KeptBut.below b9 K.out.size (by simp; omega))
            have L9 : Hid (OutE w9 w1.heap.size 49 B m mc l) := LG.out.heap (fun k e => b9.block k (LG.out.lt e).2 (by have := hlLG k e; simp; omega))
            have H0' := Lib.hid H0
            have H1' := Lib.hid H1
            clear H0 H1 b9
            go_wp2
            exact row_ret_two (r := w.heap.size) (r' := V0.heap.size) (cs := #[.int .i64 st, .int .i64 sh, .int .i64 sd, .int .i64 sp, .int .i64 eu, .int .i64 es, .int .i64 eh, .int .i64 ea, .int .i64 en, .int .i64 fu, .int .i64 fs, .int .i64 fh, .int .i64 fa, .int .i64 fn, .slice B m mc]) (cs' := #[.int .i64 vu, .int .i64 vs, .int .i64 vh, .int .i64 va, .int .i64 vn, .string vt, .bool vp]) rfl rfl rfl H0'.out Tryz.underlying30 rfl (by kernel_rfl) H1'.out Tryz.underlying32 rfl (by kernel_rfl) rfl ⟨⟨st, sh, sd, sp, ⟨⟨eu, es, eh, ea⟩, en⟩, ⟨⟨fu, fs, fh, fa⟩, fn⟩⟩, B, m, mc, l, ⟨⟨vu, vs, vh, va⟩, vn, vt, vp⟩, hm, rfl, L9.out.mono (by omega), B9.out⟩
        · have hnli : ¬ ((m : Nat) : Int) < (bs.length : Int) := by omega
          try simp only [Int.natCast_add, Int.cast_ofNat_Int] at hnli
          obtain ⟨V7, hV7⟩ : ∃ W, w6.alloc (.cells #[.int .i64 0, .int .i64 0, .int .i64 0, .int .i64 0, .int .i64 0, .string ⟨#[]⟩, .bool false] 32) = W := ⟨_, rfl⟩
          replace BT := Lib.hid (BT.out.below ((Below.refl _ _).alloc K.out.size (.cells #[.int .i64 0, .int .i64 0, .int .i64 0, .int .i64 0, .int .i64 0, .string ⟨#[]⟩, .bool false] 32)))
          replace K := Lib.hid (K.out.alloc K.out.size (.cells #[.int .i64 0, .int .i64 0, .int .i64 0, .int .i64 0, .int .i64 0, .string ⟨#[]⟩, .bool false] 32))
          replace R0 := Lib.hid (alloc_blk (o := .cells #[.int .i64 0, .int .i64 0, .int .i64 0, .int .i64 0, .int .i64 0, .string ⟨#[]⟩, .bool false] 32) R0.out)
          replace R1 := Lib.hid (alloc_blk (o := .cells #[.int .i64 0, .int .i64 0, .int .i64 0, .int .i64 0, .int .i64 0, .string ⟨#[]⟩, .bool false] 32) R1.out)
          replace C := Lib.hid (C.out.alloc (.cells #[.int .i64 0, .int .i64 0, .int .i64 0, .int .i64 0, .int .i64 0, .string ⟨#[]⟩, .bool false] 32))
          replace LG := Lib.hid (LG.out.on ((Below.refl _ _).alloc (Nat.le_refl _) (.cells #[.int .i64 0, .int .i64 0, .int .i64 0, .int .i64 0, .int .i64 0, .string ⟨#[]⟩, .bool false] 32)))
          replace M := Lib.hid (M.out.alloc (.cells #[.int .i64 0, .int .i64 0, .int .i64 0, .int .i64 0, .int .i64 0, .string ⟨#[]⟩, .bool false] 32))
          replace KS := Lib.hid (alloc_blk (o := .cells #[.int .i64 0, .int .i64 0, .int .i64 0, .int .i64 0, .int .i64 0, .string ⟨#[]⟩, .bool false] 32) KS.out)
          have KB := Lib.hid (heap1 w6 (.cells #[.int .i64 0, .int .i64 0, .int .i64 0, .int .i64 0, .int .i64 0, .string ⟨#[]⟩, .bool false] 32))
          rw [hV7] at BT K R0 R1 C LG M KS KB
          have sV7 : w6.heap.size < V7.heap.size := by rw [← hV7]; simp
          have KBo := KB
          have bs : Below w6.heap.size V7 (V7.setRow w6.heap.size #[.int .i64 xu, .int .i64 xs, .int .i64 xh, .int .i64 xa, .int .i64 xn, .string xt, .bool xp]) := below_setRow (Below.refl _ _) (Nat.le_refl _) _
          have KB2 : Hid ((V7.setRow w6.heap.size #[.int .i64 xu, .int .i64 xs, .int .i64 xh, .int .i64 xa, .int .i64 xn, .string xt, .bool xp]).heap[w6.heap.size]? = some (.cells #[.int .i64 xu, .int .i64 xs, .int .i64 xh, .int .i64 xa, .int .i64 xn, .string xt, .bool xp] 32)) := setRow_heap _ _ _ _ _ _ KB.out
          have BT2 := Lib.hid (BT.out.below (bs.mono (by omega)))
          have K2 := Lib.hid (K.out.trans (bs.mono (by omega)))
          have R02 := Lib.hid (show (V7.setRow w6.heap.size #[.int .i64 xu, .int .i64 xs, .int .i64 xh, .int .i64 xa, .int .i64 xn, .string xt, .bool xp]).heap[_]? = _ from (setRow_other _ _ _ _ (by omega)).trans R0.out)
          have R12 := Lib.hid (show (V7.setRow w6.heap.size #[.int .i64 xu, .int .i64 xs, .int .i64 xh, .int .i64 xa, .int .i64 xn, .string xt, .bool xp]).heap[_]? = _ from (setRow_other _ _ _ _ (by omega)).trans R1.out)
          have C2 := Lib.hid (C.out.below (bs.mono (by omega)))
          have LG2 := Lib.hid (LG.out.heap (w' := (V7.setRow w6.heap.size #[.int .i64 xu, .int .i64 xs, .int .i64 xh, .int .i64 xa, .int .i64 xn, .string xt, .bool xp])) (fun k e => setRow_other _ _ _ _ (by have := hlLG k e; omega)))
          have M2 := Lib.hid (M.out.heap (w' := (V7.setRow w6.heap.size #[.int .i64 xu, .int .i64 xs, .int .i64 xh, .int .i64 xa, .int .i64 xn, .string xt, .bool xp])) (setRow_other _ _ _ _ (by have := M.out.base; omega)))
          have KS2 := Lib.hid (show (V7.setRow w6.heap.size #[.int .i64 xu, .int .i64 xs, .int .i64 xh, .int .i64 xa, .int .i64 xn, .string xt, .bool xp]).heap[_]? = _ from (setRow_other _ _ _ _ (by omega)).trans KS.out)
          have sR := bs.size
          obtain ⟨⟨q0, q1, q2, q3, q4, q5, q6, q7, q8, q9, q10, q11, q12, q13, q14⟩, _⟩ := blk15 KS2.out
          go_wp2_with (first | (refine wpList_store_row rfl 32 _ _ rfl (w6.heap.size) #[.int .i64 xu, .int .i64 xs, .int .i64 xh, .int .i64 xa, .int .i64 xn, .string xt, .bool xp] rfl rfl 32 _ KBo.out (by kernel_rfl) rfl (by simp [Value.oneCell']) ?_))
          clear hV7 q0 q1 q2 q3 q4 q5 q6 q7 q8 q9 q10 q11 q12 q13 q14
          generalize (V7.setRow w6.heap.size #[.int .i64 xu, .int .i64 xs, .int .i64 xh, .int .i64 xa, .int .i64 xn, .string xt, .bool xp]) = S8 at KB2 BT2 K2 R02 R12 C2 LG2 M2 KS2 sR ⊢
          clear bs KBo KB BT K R0 R1 C LG M KS
          have KB := KB2
          have BT := BT2
          have K := K2
          have R0 := R02
          have R1 := R12
          have C := C2
          have LG := LG2
          have M := M2
          have KS := KS2
          clear KB2 BT2 K2 R02 R12 C2 LG2 M2 KS2
          have sSS8 : V7.heap.size ≤ S8.heap.size := sR
          clear sR
          clear e0 e1 e2 e3 e4 e5 e6 hx
          go_wp2
          refine wp_region_own (W := S8) [w.heap.size, V0.heap.size] (fun w' => w'.heap[w.heap.size]? = some (.cells #[.int .i64 0, .int .i64 0, .int .i64 0, .int .i64 0, .int .i64 0, .int .i64 0, .int .i64 0, .int .i64 0, .int .i64 0, .int .i64 0, .int .i64 0, .int .i64 0, .int .i64 0, .int .i64 0, .slice none 0 0] 30) ∧ w'.heap[V0.heap.size]? = some (.cells #[.int .i64 0, .int .i64 0, .int .i64 0, .int .i64 0, .int .i64 0, .string ⟨#[]⟩, .bool false] 32)) (stays_and (stays_blk (E := plainEnv S8 [w.heap.size, V0.heap.size]) (Or.inr (by simp)) _) (stays_blk (Or.inr (by simp)) _)) ⟨R0.out, R1.out⟩ [0, 0, 3, 3] (by kernel_rfl) (by kernel_rfl) (by kernel_rfl) ?_
          refine wpO_load_row rfl 30 _ rfl (w2.heap.size) rfl 30 _ (0, 0) _ (fun q => q.block KS.out (by simp; omega)) Tryz.underlying30 rfl (by kernel_rfl) ?_
          simp only [Act.put, List.setIfInBounds_toArray, List.set_cons_succ, List.set_cons_zero]
          refine wpO_load_row rfl 32 _ rfl (w6.heap.size) rfl 32 _ (0, 0) _ (fun q => q.block KB.out (by simp; omega)) Tryz.underlying32 rfl (by kernel_rfl) ?_
          simp only [Act.put, List.setIfInBounds_toArray, List.set_cons_succ, List.set_cons_zero]
          refine wpO_store (g := w.heap.size) (t := 30) (old := #[.int .i64 0, .int .i64 0, .int .i64 0, .int .i64 0, .int .i64 0, .int .i64 0, .int .i64 0, .int .i64 0, .int .i64 0, .int .i64 0, .int .i64 0, .int .i64 0, .int .i64 0, .int .i64 0, .slice none 0 0]) (fun w' => w'.heap[V0.heap.size]? = some (.cells #[.int .i64 0, .int .i64 0, .int .i64 0, .int .i64 0, .int .i64 0, .string ⟨#[]⟩, .bool false] 32)) #[.int .i64 st, .int .i64 sh, .int .i64 sd, .int .i64 sp, .int .i64 eu, .int .i64 es, .int .i64 eh, .int .i64 ea, .int .i64 en, .int .i64 fu, .int .i64 fs, .int .i64 fh, .int .i64 fa, .int .i64 fn, .slice B m mc] rfl rfl rfl rfl (Or.inr (by simp)) (by kernel_rfl) rfl rfl (fun w' h => ⟨h.2, h.1⟩) (stays_blk (Or.inr (by simp)) _) (away_blk (by omega) _) ?_
          simp only [Act.put]
          refine wpO_store (g := V0.heap.size) (t := 32) (old := #[.int .i64 0, .int .i64 0, .int .i64 0, .int .i64 0, .int .i64 0, .string ⟨#[]⟩, .bool false]) (fun w' => w'.heap[w.heap.size]? = some (.cells #[.int .i64 st, .int .i64 sh, .int .i64 sd, .int .i64 sp, .int .i64 eu, .int .i64 es, .int .i64 eh, .int .i64 ea, .int .i64 en, .int .i64 fu, .int .i64 fs, .int .i64 fh, .int .i64 fa, .int .i64 fn, .slice B m mc] 30)) #[.int .i64 xu, .int .i64 xs, .int .i64 xh, .int .i64 xa, .int .i64 xn, .string xt, .bool xp] rfl rfl rfl rfl (Or.inr (by simp)) (by kernel_rfl) rfl rfl (fun w' h => ⟨h.2, h.1⟩) (stays_blk (Or.inr (by simp)) _) (away_blk (by omega) _) ?_
          simp only [Act.put]
          refine wpO_nil ?_
          rintro w9 b9 ⟨H0, H1⟩
          have B9 : Hid (Below w.heap.size w w9) := K.out.trans (KeptBut.below b9 K.out.size (by simp; omega))
          have L9 : Hid (OutE w9 w1.heap.size 49 B m mc l) := LG.out.heap (fun k e => b9.block k (LG.out.lt e).2 (by have := hlLG k e; simp; omega))
          have H0' := Lib.hid H0
          have H1' := Lib.hid H1
          clear H0 H1 b9
          go_wp2
          exact row_ret_two (r := w.heap.size) (r' := V0.heap.size) (cs := #[.int .i64 st, .int .i64 sh, .int .i64 sd, .int .i64 sp, .int .i64 eu, .int .i64 es, .int .i64 eh, .int .i64 ea, .int .i64 en, .int .i64 fu, .int .i64 fs, .int .i64 fh, .int .i64 fa, .int .i64 fn, .slice B m mc]) (cs' := #[.int .i64 xu, .int .i64 xs, .int .i64 xh, .int .i64 xa, .int .i64 xn, .string xt, .bool xp]) rfl rfl rfl H0'.out Tryz.underlying30 rfl (by kernel_rfl) H1'.out Tryz.underlying32 rfl (by kernel_rfl) rfl ⟨⟨st, sh, sd, sp, ⟨⟨eu, es, eh, ea⟩, en⟩, ⟨⟨fu, fs, fh, fa⟩, fn⟩⟩, B, m, mc, l, ⟨⟨xu, xs, xh, xa⟩, xn, xt, xp⟩, hm, rfl, L9.out.mono (by omega), B9.out⟩

end Go.Proofs.YtchdmmlkgglmcaaGreatDoor.Tx
