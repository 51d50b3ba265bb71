/-
  The law FnExactNewSeat returns true at every hello, draw, pick and secret: NewSeat of the program and of the model answer alike, and what the program answers is new memory. No condition.
-/
import Derived.Test.YtchdmmlkgglmcaaRows
import Derived.WalkKit
import Derived.ProofKit
import Derived.OpenShut
import Derived.ShutString
import Derived.ChangeOld
import Derived.Below
import Derived.SliceStrings
import Derived.Lib.SmallJoins
import Derived.Test.YtchdmmlkgglmcaaSeat2
import Derived.Test.YtchdmmlkgglmcaaSeat6
import Derived.Test.YtchdmmlkgglmcaaImpl14
namespace Go.Proofs.Ytchdmmlkgglmcaa.fnExactNewSeat
open Go.ChangeShapes Go.WideShapes Go.ChangeAt Go.RowKit
open Go.ChangeMaps (open_string shut_string)
set_option linter.unusedVariables false

set_option maxRecDepth 100000 in
set_option maxHeartbeats 16000000 in
theorem walk (w : World) (h : Int) (_ : (Lit.int .i64 h).wf = true) (d : Int) (_ : (Lit.int .i64 d).wf = true) (p : Int) (_ : (Lit.int .i64 p).wf = true) (s : Int) (_ : (Lit.int .i64 s).wf = true) :
    Calls Try.prog 4 #[.int .i64 h, .int .i64 d, .int .i64 p, .int .i64 s] w fun e w' => e = .returned (.bool true) ∧ Below w.heap.size w w' := by
  have cS' := fun w' => Tx.NewSeat_spec h d p s w'
  have cI' := fun w' => Tx.NewSeat_impl h d p s w'
  generalize Tx.newSeatB h d p s = y at cS' cI'
  generalize Tx.newSeatV h d p s = q at cS' cI'
  have hyy : (y != y) = false := by simp
  obtain ⟨st, sh, sd, sp, ⟨⟨eu, es, eh, ea⟩, en⟩, ⟨⟨fu, fs, fh, fa⟩, fn⟩⟩ := q
  have E0 : ∀ (w' : World) (A : Option Addr), Tx.EltsO w' w'.heap.size A 0 ([] : List Tx.WordV) := fun w' A => ⟨rfl, fun h => absurd h (by omega)⟩
  have cS : Hid (∀ w' : World, Calls Try.prog 12 #[.int .i64 h, .int .i64 d, .int .i64 p, .int .i64 s] w' fun e w'' => e = .returned (.tuple #[.agg #[.int .i64 st, .int .i64 sh, .int .i64 sd, .int .i64 sp, .int .i64 eu, .int .i64 es, .int .i64 eh, .int .i64 ea, .int .i64 en, .int .i64 fu, .int .i64 fs, .int .i64 fh, .int .i64 fa, .int .i64 fn, .slice none 0 0], .bool y]) ∧ Below w'.heap.size w' w'') := fun w' => cS' w'
  have cI : Hid (∀ w' : World, Calls Try.prog 13 #[.int .i64 h, .int .i64 d, .int .i64 p, .int .i64 s] w' fun e w'' => ∃ A c, e = .returned (.tuple #[.agg #[.int .i64 st, .int .i64 sh, .int .i64 sd, .int .i64 sp, .int .i64 eu, .int .i64 es, .int .i64 eh, .int .i64 ea, .int .i64 en, .int .i64 fu, .int .i64 fs, .int .i64 fh, .int .i64 fa, .int .i64 fn, .slice A 0 c], .bool y]) ∧ Below w'.heap.size w' w'') := fun w' => (cI' w').mono fun e w'' ⟨A, c, he, _, hb⟩ => ⟨A, c, he, hb⟩
  have cE : Hid (∀ (A : Option Addr) (c : Nat) (w' : World), Calls Try.prog 11 #[.agg #[.int .i64 st, .int .i64 sh, .int .i64 sd, .int .i64 sp, .int .i64 eu, .int .i64 es, .int .i64 eh, .int .i64 ea, .int .i64 en, .int .i64 fu, .int .i64 fs, .int .i64 fh, .int .i64 fa, .int .i64 fn, .slice A 0 c], .agg #[.int .i64 st, .int .i64 sh, .int .i64 sd, .int .i64 sp, .int .i64 eu, .int .i64 es, .int .i64 eh, .int .i64 ea, .int .i64 en, .int .i64 fu, .int .i64 fs, .int .i64 fh, .int .i64 fa, .int .i64 fn, .slice none 0 0]] w' fun e w'' => e = .returned (.bool true) ∧ Below w'.heap.size w' w'') := fun A c w' => Tx.eqSeat_same ⟨st, sh, sd, sp, ⟨⟨eu, es, eh, ea⟩, en⟩, ⟨⟨fu, fs, fh, fa⟩, fn⟩⟩ A none 0 c 0 [] w' (E0 _ _) (E0 _ _) (by omega)
  have cM : Hid (∀ (A : Option Addr) (c : Nat) (w' : World), Calls Try.prog 14 #[.agg #[.int .i64 st, .int .i64 sh, .int .i64 sd, .int .i64 sp, .int .i64 eu, .int .i64 es, .int .i64 eh, .int .i64 ea, .int .i64 en, .int .i64 fu, .int .i64 fs, .int .i64 fh, .int .i64 fa, .int .i64 fn, .slice A 0 c], .int .i64 1] w' fun e w'' => e = .returned (.int .i64 1) ∧ Below w'.heap.size w' w'') := fun A c w' => Tx.markSeat_nil ⟨st, sh, sd, sp, ⟨⟨eu, es, eh, ea⟩, en⟩, ⟨⟨fu, fs, fh, fa⟩, fn⟩⟩ A c 1 w'
  have cH : Hid (∀ (A : Option Addr) (c : Nat) (w' : World), Calls Try.prog 15 #[.agg #[.int .i64 st, .int .i64 sh, .int .i64 sd, .int .i64 sp, .int .i64 eu, .int .i64 es, .int .i64 eh, .int .i64 ea, .int .i64 en, .int .i64 fu, .int .i64 fs, .int .i64 fh, .int .i64 fa, .int .i64 fn, .slice A 0 c], .int .i64 1] w' fun e w'' => e = .returned (.int .i64 1) ∧ Below w'.heap.size w' w'') := fun A c w' => Tx.heldSeat_nil ⟨st, sh, sd, sp, ⟨⟨eu, es, eh, ea⟩, en⟩, ⟨⟨fu, fs, fh, fa⟩, fn⟩⟩ A c 1 w'
  clear cS' cI' E0
  have K0 := Lib.hid (Below.refl w.heap.size w)
  go_enter Try.func4, Try.ntmps4
  go_wp2_with fail
  refine (cS.out _).mono ?_
  rintro e w1 ⟨rfl, hb⟩
  have K1 := Lib.hid (K0.out.trans (hb.mono K0.out.size))
  clear hb K0
  obtain ⟨V2, hV2⟩ : ∃ V, w1.alloc (.cells #[.int .i64 0, .int .i64 0, .int .i64 0, .int .i64 0, .int .i64 0, .int .i64 0, .int .i64 0, .int .i64 0, .int .i64 0, .int .i64 0, .int .i64 0, .int .i64 0, .int .i64 0, .int .i64 0, .slice none 0 0] 36) = V := ⟨_, rfl⟩
  have hb : Below w1.heap.size w1 V2 := by rw [← hV2]; exact (Below.refl _ w1).alloc (Nat.le_refl _) _
  have K2 := Lib.hid (K1.out.trans (hb.mono K1.out.size))
  have GA2 : Hid (V2.heap[w1.heap.size]? = some (.cells #[.int .i64 0, .int .i64 0, .int .i64 0, .int .i64 0, .int .i64 0, .int .i64 0, .int .i64 0, .int .i64 0, .int .i64 0, .int .i64 0, .int .i64 0, .int .i64 0, .int .i64 0, .int .i64 0, .slice none 0 0] 36)) := by rw [← hV2]; exact Tx.heap1 w1 _
  have lbV2 : w.heap.size ≤ w1.heap.size := K1.out.size
  clear hb K1
  have GA3 : Hid ((V2.setRow w1.heap.size #[.int .i64 st, .int .i64 sh, .int .i64 sd, .int .i64 sp, .int .i64 eu, .int .i64 es, .int .i64 eh, .int .i64 ea, .int .i64 en, .int .i64 fu, .int .i64 fs, .int .i64 fh, .int .i64 fa, .int .i64 fn, .slice none 0 0]).heap[w1.heap.size]? = some (.cells #[.int .i64 st, .int .i64 sh, .int .i64 sd, .int .i64 sp, .int .i64 eu, .int .i64 es, .int .i64 eh, .int .i64 ea, .int .i64 en, .int .i64 fu, .int .i64 fs, .int .i64 fh, .int .i64 fa, .int .i64 fn, .slice none 0 0] 36)) := setRow_heap _ _ _ _ _ _ GA2.out
  have K3 : Hid (Below w.heap.size w (V2.setRow w1.heap.size #[.int .i64 st, .int .i64 sh, .int .i64 sd, .int .i64 sp, .int .i64 eu, .int .i64 es, .int .i64 eh, .int .i64 ea, .int .i64 en, .int .i64 fu, .int .i64 fs, .int .i64 fh, .int .i64 fa, .int .i64 fn, .slice none 0 0])) := below_setRow K2.out (by omega) _
  go_wp2_with (refine wpList_store_row rfl 36 _ _ rfl (w1.heap.size) #[.int .i64 st, .int .i64 sh, .int .i64 sd, .int .i64 sp, .int .i64 eu, .int .i64 es, .int .i64 eh, .int .i64 ea, .int .i64 en, .int .i64 fu, .int .i64 fs, .int .i64 fh, .int .i64 fa, .int .i64 fn, .slice none 0 0] rfl rfl 36 _ GA2.out (by kernel_rfl) rfl (by simp [Value.oneCell']) ?_)
  clear hV2 GA2 K2
  generalize V2.setRow w1.heap.size #[.int .i64 st, .int .i64 sh, .int .i64 sd, .int .i64 sp, .int .i64 eu, .int .i64 es, .int .i64 eh, .int .i64 ea, .int .i64 en, .int .i64 fu, .int .i64 fs, .int .i64 fh, .int .i64 fa, .int .i64 fn, .slice none 0 0] = S3 at GA3 K3 ⊢
  refine (cI.out _).mono ?_
  rintro e w4 ⟨A, c, rfl, hb⟩
  have GA4 := Lib.hid (Tx.blk_on hb GA3.out)
  have K4 := Lib.hid (K3.out.trans (hb.mono K3.out.size))
  clear hb GA3 K3
  obtain ⟨V5, hV5⟩ : ∃ V, w4.alloc (.cells #[.int .i64 0, .int .i64 0, .int .i64 0, .int .i64 0, .int .i64 0, .int .i64 0, .int .i64 0, .int .i64 0, .int .i64 0, .int .i64 0, .int .i64 0, .int .i64 0, .int .i64 0, .int .i64 0, .slice none 0 0] 36) = V := ⟨_, rfl⟩
  have ltV5GA : w1.heap.size < w4.heap.size := Tx.blk_in GA4.out
  have GA5 : Hid (V5.heap[w1.heap.size]? = some (.cells #[.int .i64 st, .int .i64 sh, .int .i64 sd, .int .i64 sp, .int .i64 eu, .int .i64 es, .int .i64 eh, .int .i64 ea, .int .i64 en, .int .i64 fu, .int .i64 fs, .int .i64 fh, .int .i64 fa, .int .i64 fn, .slice none 0 0] 36)) := by rw [← hV5]; exact Tx.alloc_blk GA4.out
  have hb : Below w4.heap.size w4 V5 := by rw [← hV5]; exact (Below.refl _ w4).alloc (Nat.le_refl _) _
  have K5 := Lib.hid (K4.out.trans (hb.mono K4.out.size))
  have GB5 : Hid (V5.heap[w4.heap.size]? = some (.cells #[.int .i64 0, .int .i64 0, .int .i64 0, .int .i64 0, .int .i64 0, .int .i64 0, .int .i64 0, .int .i64 0, .int .i64 0, .int .i64 0, .int .i64 0, .int .i64 0, .int .i64 0, .int .i64 0, .slice none 0 0] 36)) := by rw [← hV5]; exact Tx.heap1 w4 _
  have lbV5 : w.heap.size ≤ w4.heap.size := K4.out.size
  clear hb GA4 K4
  have GA6 : Hid ((V5.setRow w4.heap.size #[.int .i64 st, .int .i64 sh, .int .i64 sd, .int .i64 sp, .int .i64 eu, .int .i64 es, .int .i64 eh, .int .i64 ea, .int .i64 en, .int .i64 fu, .int .i64 fs, .int .i64 fh, .int .i64 fa, .int .i64 fn, .slice A 0 c]).heap[w1.heap.size]? = some (.cells #[.int .i64 st, .int .i64 sh, .int .i64 sd, .int .i64 sp, .int .i64 eu, .int .i64 es, .int .i64 eh, .int .i64 ea, .int .i64 en, .int .i64 fu, .int .i64 fs, .int .i64 fh, .int .i64 fa, .int .i64 fn, .slice none 0 0] 36)) := (setRow_other _ _ _ _ (by omega)).trans GA5.out
  have GB6 : Hid ((V5.setRow w4.heap.size #[.int .i64 st, .int .i64 sh, .int .i64 sd, .int .i64 sp, .int .i64 eu, .int .i64 es, .int .i64 eh, .int .i64 ea, .int .i64 en, .int .i64 fu, .int .i64 fs, .int .i64 fh, .int .i64 fa, .int .i64 fn, .slice A 0 c]).heap[w4.heap.size]? = some (.cells #[.int .i64 st, .int .i64 sh, .int .i64 sd, .int .i64 sp, .int .i64 eu, .int .i64 es, .int .i64 eh, .int .i64 ea, .int .i64 en, .int .i64 fu, .int .i64 fs, .int .i64 fh, .int .i64 fa, .int .i64 fn, .slice A 0 c] 36)) := setRow_heap _ _ _ _ _ _ GB5.out
  have K6 : Hid (Below w.heap.size w (V5.setRow w4.heap.size #[.int .i64 st, .int .i64 sh, .int .i64 sd, .int .i64 sp, .int .i64 eu, .int .i64 es, .int .i64 eh, .int .i64 ea, .int .i64 en, .int .i64 fu, .int .i64 fs, .int .i64 fh, .int .i64 fa, .int .i64 fn, .slice A 0 c])) := below_setRow K5.out (by omega) _
  go_wp2_with (first | (refine wpList_store_row rfl 36 _ _ rfl (w4.heap.size) #[.int .i64 st, .int .i64 sh, .int .i64 sd, .int .i64 sp, .int .i64 eu, .int .i64 es, .int .i64 eh, .int .i64 ea, .int .i64 en, .int .i64 fu, .int .i64 fs, .int .i64 fh, .int .i64 fa, .int .i64 fn, .slice A 0 c] rfl rfl 36 _ GB5.out (by kernel_rfl) rfl (by simp [Value.oneCell']) ?_) | (refine wpList_load_row rfl 36 _ rfl (w4.heap.size) rfl 36 _ (0, 0) _ GB6.out Try.underlying36 rfl (by kernel_rfl) ?_) | (refine wpList_load_row rfl 36 _ rfl (w1.heap.size) rfl 36 _ (0, 0) _ GA6.out Try.underlying36 rfl (by kernel_rfl) ?_))
  clear hV5 GA5 GB5 K5
  generalize V5.setRow w4.heap.size #[.int .i64 st, .int .i64 sh, .int .i64 sd, .int .i64 sp, .int .i64 eu, .int .i64 es, .int .i64 eh, .int .i64 ea, .int .i64 en, .int .i64 fu, .int .i64 fs, .int .i64 fh, .int .i64 fa, .int .i64 fn, .slice A 0 c] = S6 at GA6 GB6 K6 ⊢
  refine (cE.out _ _ _).mono ?_
  rintro e w7 ⟨rfl, hb⟩
  have GA7 := Lib.hid (Tx.blk_on hb GA6.out)
  have GB7 := Lib.hid (Tx.blk_on hb GB6.out)
  have K7 := Lib.hid (K6.out.trans (hb.mono K6.out.size))
  clear hb GA6 GB6 K6
  go_wp2_with (refine wpList_load_row rfl 36 _ rfl (w4.heap.size) rfl 36 _ (0, 0) _ GB7.out Try.underlying36 rfl (by kernel_rfl) ?_)
  refine (cM.out _ _ _).mono ?_
  rintro e w8 ⟨rfl, hb⟩
  have GA8 := Lib.hid (Tx.blk_on hb GA7.out)
  have GB8 := Lib.hid (Tx.blk_on hb GB7.out)
  have K8 := Lib.hid (K7.out.trans (hb.mono K7.out.size))
  clear hb GA7 GB7 K7
  go_wp2_with (refine wpList_load_row rfl 36 _ rfl (w4.heap.size) rfl 36 _ (0, 0) _ GB8.out Try.underlying36 rfl (by kernel_rfl) ?_)
  refine (cH.out _ _ _).mono ?_
  rintro e w9 ⟨rfl, hb⟩
  have GA9 := Lib.hid (Tx.blk_on hb GA8.out)
  have GB9 := Lib.hid (Tx.blk_on hb GB8.out)
  have K9 := Lib.hid (K8.out.trans (hb.mono K8.out.size))
  clear hb GA8 GB8 K8
  go_wp2_with fail
  refine (cI.out _).mono ?_
  rintro e w10 ⟨A', c', rfl, hb⟩
  have GA10 := Lib.hid (Tx.blk_on hb GA9.out)
  have GB10 := Lib.hid (Tx.blk_on hb GB9.out)
  have K10 := Lib.hid (K9.out.trans (hb.mono K9.out.size))
  clear hb GA9 GB9 K9
  obtain ⟨V11, hV11⟩ : ∃ V, w10.alloc (.cells #[.int .i64 0, .int .i64 0, .int .i64 0, .int .i64 0, .int .i64 0, .int .i64 0, .int .i64 0, .int .i64 0, .int .i64 0, .int .i64 0, .int .i64 0, .int .i64 0, .int .i64 0, .int .i64 0, .slice none 0 0] 36) = V := ⟨_, rfl⟩
  have ltV11GA : w1.heap.size < w10.heap.size := Tx.blk_in GA10.out
  have ltV11GB : w4.heap.size < w10.heap.size := Tx.blk_in GB10.out
  have GA11 : Hid (V11.heap[w1.heap.size]? = some (.cells #[.int .i64 st, .int .i64 sh, .int .i64 sd, .int .i64 sp, .int .i64 eu, .int .i64 es, .int .i64 eh, .int .i64 ea, .int .i64 en, .int .i64 fu, .int .i64 fs, .int .i64 fh, .int .i64 fa, .int .i64 fn, .slice none 0 0] 36)) := by rw [← hV11]; exact Tx.alloc_blk GA10.out
  have GB11 : Hid (V11.heap[w4.heap.size]? = some (.cells #[.int .i64 st, .int .i64 sh, .int .i64 sd, .int .i64 sp, .int .i64 eu, .int .i64 es, .int .i64 eh, .int .i64 ea, .int .i64 en, .int .i64 fu, .int .i64 fs, .int .i64 fh, .int .i64 fa, .int .i64 fn, .slice A 0 c] 36)) := by rw [← hV11]; exact Tx.alloc_blk GB10.out
  have hb : Below w10.heap.size w10 V11 := by rw [← hV11]; exact (Below.refl _ w10).alloc (Nat.le_refl _) _
  have K11 := Lib.hid (K10.out.trans (hb.mono K10.out.size))
  have GC11 : Hid (V11.heap[w10.heap.size]? = some (.cells #[.int .i64 0, .int .i64 0, .int .i64 0, .int .i64 0, .int .i64 0, .int .i64 0, .int .i64 0, .int .i64 0, .int .i64 0, .int .i64 0, .int .i64 0, .int .i64 0, .int .i64 0, .int .i64 0, .slice none 0 0] 36)) := by rw [← hV11]; exact Tx.heap1 w10 _
  have lbV11 : w.heap.size ≤ w10.heap.size := K10.out.size
  clear hb GA10 GB10 K10
  have GA12 : Hid ((V11.setRow w10.heap.size #[.int .i64 st, .int .i64 sh, .int .i64 sd, .int .i64 sp, .int .i64 eu, .int .i64 es, .int .i64 eh, .int .i64 ea, .int .i64 en, .int .i64 fu, .int .i64 fs, .int .i64 fh, .int .i64 fa, .int .i64 fn, .slice A' 0 c']).heap[w1.heap.size]? = some (.cells #[.int .i64 st, .int .i64 sh, .int .i64 sd, .int .i64 sp, .int .i64 eu, .int .i64 es, .int .i64 eh, .int .i64 ea, .int .i64 en, .int .i64 fu, .int .i64 fs, .int .i64 fh, .int .i64 fa, .int .i64 fn, .slice none 0 0] 36)) := (setRow_other _ _ _ _ (by omega)).trans GA11.out
  have GB12 : Hid ((V11.setRow w10.heap.size #[.int .i64 st, .int .i64 sh, .int .i64 sd, .int .i64 sp, .int .i64 eu, .int .i64 es, .int .i64 eh, .int .i64 ea, .int .i64 en, .int .i64 fu, .int .i64 fs, .int .i64 fh, .int .i64 fa, .int .i64 fn, .slice A' 0 c']).heap[w4.heap.size]? = some (.cells #[.int .i64 st, .int .i64 sh, .int .i64 sd, .int .i64 sp, .int .i64 eu, .int .i64 es, .int .i64 eh, .int .i64 ea, .int .i64 en, .int .i64 fu, .int .i64 fs, .int .i64 fh, .int .i64 fa, .int .i64 fn, .slice A 0 c] 36)) := (setRow_other _ _ _ _ (by omega)).trans GB11.out
  have GC12 : Hid ((V11.setRow w10.heap.size #[.int .i64 st, .int .i64 sh, .int .i64 sd, .int .i64 sp, .int .i64 eu, .int .i64 es, .int .i64 eh, .int .i64 ea, .int .i64 en, .int .i64 fu, .int .i64 fs, .int .i64 fh, .int .i64 fa, .int .i64 fn, .slice A' 0 c']).heap[w10.heap.size]? = some (.cells #[.int .i64 st, .int .i64 sh, .int .i64 sd, .int .i64 sp, .int .i64 eu, .int .i64 es, .int .i64 eh, .int .i64 ea, .int .i64 en, .int .i64 fu, .int .i64 fs, .int .i64 fh, .int .i64 fa, .int .i64 fn, .slice A' 0 c'] 36)) := setRow_heap _ _ _ _ _ _ GC11.out
  have K12 : Hid (Below w.heap.size w (V11.setRow w10.heap.size #[.int .i64 st, .int .i64 sh, .int .i64 sd, .int .i64 sp, .int .i64 eu, .int .i64 es, .int .i64 eh, .int .i64 ea, .int .i64 en, .int .i64 fu, .int .i64 fs, .int .i64 fh, .int .i64 fa, .int .i64 fn, .slice A' 0 c'])) := below_setRow K11.out (by omega) _
  go_wp2_with (first | (refine wpList_store_row rfl 36 _ _ rfl (w10.heap.size) #[.int .i64 st, .int .i64 sh, .int .i64 sd, .int .i64 sp, .int .i64 eu, .int .i64 es, .int .i64 eh, .int .i64 ea, .int .i64 en, .int .i64 fu, .int .i64 fs, .int .i64 fh, .int .i64 fa, .int .i64 fn, .slice A' 0 c'] rfl rfl 36 _ GC11.out (by kernel_rfl) rfl (by simp [Value.oneCell']) ?_) | (refine wpList_load_row rfl 36 _ rfl (w10.heap.size) rfl 36 _ (0, 0) _ GC12.out Try.underlying36 rfl (by kernel_rfl) ?_) | (refine wpList_load_row rfl 36 _ rfl (w1.heap.size) rfl 36 _ (0, 0) _ GA12.out Try.underlying36 rfl (by kernel_rfl) ?_))
  clear hV11 GA11 GB11 GC11 K11
  generalize V11.setRow w10.heap.size #[.int .i64 st, .int .i64 sh, .int .i64 sd, .int .i64 sp, .int .i64 eu, .int .i64 es, .int .i64 eh, .int .i64 ea, .int .i64 en, .int .i64 fu, .int .i64 fs, .int .i64 fh, .int .i64 fa, .int .i64 fn, .slice A' 0 c'] = S12 at GA12 GB12 GC12 K12 ⊢
  refine (cE.out _ _ _).mono ?_
  rintro e w13 ⟨rfl, hb⟩
  have GA13 := Lib.hid (Tx.blk_on hb GA12.out)
  have GB13 := Lib.hid (Tx.blk_on hb GB12.out)
  have GC13 := Lib.hid (Tx.blk_on hb GC12.out)
  have K13 := Lib.hid (K12.out.trans (hb.mono K12.out.size))
  clear hb GA12 GB12 GC12 K12
  go_wp2_with (refine wpList_load_row rfl 36 _ rfl (w4.heap.size) rfl 36 _ (0, 0) _ GB13.out Try.underlying36 rfl (by kernel_rfl) ?_)
  refine (cH.out _ _ _).mono ?_
  rintro e w14 ⟨rfl, hb⟩
  have GA14 := Lib.hid (Tx.blk_on hb GA13.out)
  have GB14 := Lib.hid (Tx.blk_on hb GB13.out)
  have GC14 := Lib.hid (Tx.blk_on hb GC13.out)
  have K14 := Lib.hid (K13.out.trans (hb.mono K13.out.size))
  clear hb GA13 GB13 GC13 K13
  go_wp2
  go_ret
  exact ⟨rfl, K14.out⟩

theorem own : ownKnob Try.prog.godebug = none := by kernel_rfl
theorem laidOut : laidOutB Try.prog = true := by kernel_rfl

set_option maxRecDepth 100000 in
theorem lifted (os : Os) (started : os.Started) (H : Type) (enc : TypeId × Value → H) :
    ReturnsInHanded {} Try.checked os 4 .any (Rows.fnExactNewSeatSpec.pre6 enc Try.prog Try.f4 Rows.fnExactNewSeatRow.domain false) (Rows.fnExactNewSeatSpec.post enc Try.prog Try.f4 false true false false) := by
  refine returnsInHanded_of_change (C := Try.checked) own started (by kernel_rfl) Try.func4
    (ChangeSpec.witness6 (enc := enc) (C := Try.checked) false ⟨#[], #[.int .i64 0, .int .i64 0, .int .i64 0, .int .i64 0], []⟩ 8 (by kernel_rfl) (by kernel_rfl) (by kernel_rfl) (by kernel_rfl)) ?_
  intro W base args ds gs before hval0 hW hcnd _
  have hval : ∀ (j : Nat) t v, Try.f4.params[j]? = some t → args[j]? = some v → Value.okWide Try.prog W .any base t v := hval0
  have hW' := hW
  obtain ⟨p, q, hA0, hV, rfl, hfz, hnd⟩ := hW
  have hA : DataW.TrodAll enc Try.prog W 0 (fun _ => true) true Try.f4.params.toList args.toList ds p := hA0
  rw [Try.params4] at hA hval
  obtain ⟨v0, vs0, d0, ds0, p0, q0, hargs, rfl, rfl, h0, r0⟩ := trodAll_cons hA
  obtain ⟨v1, vs1, d1, ds1, p1, q1, rfl, rfl, rfl, h1, r1⟩ := trodAll_cons r0
  obtain ⟨v2, vs2, d2, ds2, p2, q2, rfl, rfl, rfl, h2, r2⟩ := trodAll_cons r1
  obtain ⟨v3, vs3, d3, ds3, p3, q3, rfl, rfl, rfl, h3, r3⟩ := trodAll_cons r2
  obtain ⟨rfl, rfl, rfl⟩ := trodAll_nil r3
  obtain rfl : args = #[v0, v1, v2, v3] := by cases args; simp_all
  obtain ⟨rfl, rfl⟩ := trodVars_none hV
  have k0 := h0
  have lt0 : ∀ x ∈ p0, x.block < W.heap.size := by obtain ⟨m, hm⟩ := k0; exact DataW.trod_lt m _ _ _ hm
  have k1 := h1
  have lt1 : ∀ x ∈ p1, x.block < W.heap.size := by obtain ⟨m, hm⟩ := k1; exact DataW.trod_lt m _ _ _ hm
  have k2 := h2
  have lt2 : ∀ x ∈ p2, x.block < W.heap.size := by obtain ⟨m, hm⟩ := k2; exact DataW.trod_lt m _ _ _ hm
  have k3 := h3
  have lt3 : ∀ x ∈ p3, x.block < W.heap.size := by obtain ⟨m, hm⟩ := k3; exact DataW.trod_lt m _ _ _ hm
  obtain ⟨a0, rfl, rfl, rfl, w0⟩ := open_int Try.underlying2 (hval 0 2 v0 rfl rfl) h0
  obtain ⟨a1, rfl, rfl, rfl, w1⟩ := open_int Try.underlying2 (hval 1 2 v1 rfl rfl) h1
  obtain ⟨a2, rfl, rfl, rfl, w2⟩ := open_int Try.underlying2 (hval 2 2 v2 rfl rfl) h2
  obtain ⟨a3, rfl, rfl, rfl, w3⟩ := open_int Try.underlying2 (hval 3 2 v3 rfl rfl) h3
  clear hA0 hval0
  refine (walk W a0 w0 a1 w1 a2 w2 a3 w3).mono fun e W' ⟨he, bel⟩ => ?_
  subst he
  exact ⟨_, rfl, _, _, _, [], _, [], hW', trodAll_mk1 (shut_bool Try.underlying4 _), (trodAll_cons_mk (Below.trod laidOut (by kernel_rfl) (of_decide_eq_true (by kernel_rfl)) k0 bel lt0) (trodAll_cons_mk (Below.trod laidOut (by kernel_rfl) (of_decide_eq_true (by kernel_rfl)) k1 bel lt1) (trodAll_cons_mk (Below.trod laidOut (by kernel_rfl) (of_decide_eq_true (by kernel_rfl)) k2 bel lt2) (trodAll_cons_mk (Below.trod laidOut (by kernel_rfl) (of_decide_eq_true (by kernel_rfl)) k3 bel lt3) trodAll_mk0)))), rfl, bel.frame _, fun h => by cases h⟩

theorem over : Rows.fnExactNewSeatRow.holds Try.pinned (OpenSpec.ofChange Rows.fnExactNewSeatSpec) :=
  OpenClaim.holds_of_wide 4 Try.f4 rfl rfl rfl rfl rfl rfl rfl ⟨rfl, rfl, rfl, rfl, rfl⟩ rfl rfl rfl rfl rfl (by kernel_rfl) Try.func4 (by kernel_rfl)
    (of_decide_eq_true (by kernel_rfl)) (by unfold Func.isWrapper; first | (rw [if_pos (by decide +kernel)]; kernel_rfl) | (rw [if_neg (by decide +kernel)]; exact ⟨rfl, rfl⟩))
    (fun os started H enc _ => lifted os started H enc)

end Go.Proofs.Ytchdmmlkgglmcaa.fnExactNewSeat

namespace Go.Proofs.Ytchdmmlkgglmcaa
theorem fnExactNewSeat_proved : Rows.FnExactNewSeatSaid := fnExactNewSeat.over
#print axioms fnExactNewSeat_proved
end Go.Proofs.Ytchdmmlkgglmcaa
