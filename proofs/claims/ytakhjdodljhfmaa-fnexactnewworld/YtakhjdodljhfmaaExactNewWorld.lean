/-
  The law FnExactNewWorld returns true at every number of houses: NewWorld of the program and of the model answer alike, and what the program answers is new memory. No condition.
-/
import Derived.Test.YtakhjdodljhfmaaRows
import Derived.WalkKit
import Derived.ProofKit
import Derived.OpenShut
import Derived.ShutString
import Derived.ChangeOld
import Derived.Below
import Derived.SliceStrings
import Derived.Lib.SmallJoins
import Derived.Test.YtakhjdodljhfmaaWorld2
import Derived.Test.YtakhjdodljhfmaaImpl16
namespace Go.Proofs.Ytakhjdodljhfmaa.fnExactNewWorld
open Go.ChangeShapes Go.WideShapes Go.ChangeAt Go.RowKit
open Go.ChangeMaps (open_string shut_string)
set_option linter.unusedVariables false

set_option maxRecDepth 100000 in
set_option maxHeartbeats 16000000 in
theorem walk (w : World) (h : Int) (_ : (Lit.int .i64 h).wf = true) :
    Calls Try.prog 3 #[.int .i64 h] w fun e w' => e = .returned (.bool true) ∧ Below w.heap.size w w' := by
  have hn := Tx.nwN_le h
  obtain ⟨y, hy⟩ : ∃ b, Tx.nwB h = b := ⟨_, rfl⟩
  obtain ⟨s, hs⟩ : ∃ x, Tx.nwS h = x := ⟨_, rfl⟩
  obtain ⟨n, hnn⟩ : ∃ x, Tx.nwN h = x := ⟨_, rfl⟩
  rw [hnn] at hn
  have hyy : (y != y) = false := by simp
  have cS : Hid (∀ w' : World, Calls Try.prog 4 #[.int .i64 h] w' fun e w'' => ∃ (aA aG aP aW : Option Addr) (ac ag ap aw : Nat) (is : List Tx.InnZ), e = .returned (.tuple #[.agg #[.int .i64 s, .int .i64 0, .int .i64 s, .slice aA n ac, .slice aG 0 ag, .slice aP 0 ap, .slice aW 0 aw], .bool y]) ∧ Tx.OutE w'' w'.heap.size 41 aA n ac is ∧ (∀ z ∈ is, z.t = 0) ∧ Below w'.heap.size w' w'') := fun w' => by
    have h1 := Tx.NewWorld_spec h w'
    unfold Tx.WorldOut at h1
    rw [hy, hs, hnn] at h1
    exact h1
  have cI : Hid (∀ w' : World, Calls Try.prog 5 #[.int .i64 h] w' fun e w'' => ∃ (aA aG aP aW : Option Addr) (ac ag ap aw : Nat) (is : List Tx.InnZ), e = .returned (.tuple #[.agg #[.int .i64 s, .int .i64 0, .int .i64 s, .slice aA n ac, .slice aG 0 ag, .slice aP 0 ap, .slice aW 0 aw], .bool y]) ∧ Tx.OutE w'' w'.heap.size 41 aA n ac is ∧ (∀ z ∈ is, z.t = 0) ∧ Below w'.heap.size w' w'') := fun w' => by
    have h1 := Tx.NewWorld_impl h w'
    unfold Tx.WorldOut at h1
    rw [hy, hs, hnn] at h1
    exact h1
  have ht : Hid (∀ (l m : List Tx.InnZ), (∀ z ∈ l, z.t = 0) → (∀ z ∈ m, z.t = 0) → ∀ (j : Nat) (x y : Tx.InnZ), l[j]? = some x → m[j]? = some y → x.t = y.t) := fun l m h1 h2 j x y hx hy => by rw [h1 x (List.mem_of_getElem? hx), h2 y (List.mem_of_getElem? hy)]
  clear hy hs hnn
  have K0 := Lib.hid (Below.refl w.heap.size w)
  go_enter Try.func3, Try.ntmps3
  go_wp2_with fail
  have hKa := K0.out.size
  refine (cS.out _).mono ?_
  rintro e w1 ⟨aA, aG, aP, aW, ac, ag, ap, aw, ai, rfl, hca, hta, hb⟩
  have hlA : ∀ k, Tx.blkA aA = some k → w.heap.size ≤ k ∧ k < w1.heap.size := fun k e => hca.lt e
  have hsz1 := hb.size
  have K1 := Lib.hid (K0.out.trans (hb.mono K0.out.size))
  clear hb K0
  have A1 := Lib.hid hca
  clear hca
  obtain ⟨V2, hV2⟩ : ∃ V, w1.alloc (.cells #[.int .i64 0, .int .i64 0, .int .i64 0, .slice none 0 0, .slice none 0 0, .slice none 0 0, .slice none 0 0] 27) = V := ⟨_, rfl⟩
  have hb : Below w1.heap.size w1 V2 := by rw [← hV2]; exact (Below.refl _ w1).alloc (Nat.le_refl _) _
  have A2 := Lib.hid (A1.out.on hb)
  have K2 := Lib.hid (K1.out.trans (hb.mono K1.out.size))
  have GA2 : Hid (V2.heap[w1.heap.size]? = some (.cells #[.int .i64 0, .int .i64 0, .int .i64 0, .slice none 0 0, .slice none 0 0, .slice none 0 0, .slice none 0 0] 27)) := by rw [← hV2]; exact Tx.heap1 w1 _
  have lbV2 : w.heap.size ≤ w1.heap.size := K1.out.size
  clear hb K1 A1
  have zaV2 : V2.heap.size = w1.heap.size + 1 := by rw [← hV2]; simp
  have GA3 : Hid ((V2.setRow w1.heap.size #[.int .i64 s, .int .i64 0, .int .i64 s, .slice aA n ac, .slice aG 0 ag, .slice aP 0 ap, .slice aW 0 aw]).heap[w1.heap.size]? = some (.cells #[.int .i64 s, .int .i64 0, .int .i64 s, .slice aA n ac, .slice aG 0 ag, .slice aP 0 ap, .slice aW 0 aw] 27)) := setRow_heap _ _ _ _ _ _ GA2.out
  have K3 : Hid (Below w.heap.size w (V2.setRow w1.heap.size #[.int .i64 s, .int .i64 0, .int .i64 s, .slice aA n ac, .slice aG 0 ag, .slice aP 0 ap, .slice aW 0 aw])) := below_setRow K2.out (by omega) _
  have A3 : Hid (Tx.OutE (V2.setRow w1.heap.size #[.int .i64 s, .int .i64 0, .int .i64 s, .slice aA n ac, .slice aG 0 ag, .slice aP 0 ap, .slice aW 0 aw]) w.heap.size 41 aA n ac ai) := A2.out.heap (fun k e => setRow_other _ _ _ _ (by have h1 := hlA k e; omega))
  clear A2
  have zz3 := size_setRow V2 (w1.heap.size) #[.int .i64 s, .int .i64 0, .int .i64 s, .slice aA n ac, .slice aG 0 ag, .slice aP 0 ap, .slice aW 0 aw]
  go_wp2_with (refine wpList_store_row rfl 27 _ _ rfl (w1.heap.size) #[.int .i64 s, .int .i64 0, .int .i64 s, .slice aA n ac, .slice aG 0 ag, .slice aP 0 ap, .slice aW 0 aw] rfl rfl 27 _ GA2.out (by kernel_rfl) rfl (by simp [Value.oneCell']) ?_)
  clear hV2 GA2 K2
  generalize V2.setRow w1.heap.size #[.int .i64 s, .int .i64 0, .int .i64 s, .slice aA n ac, .slice aG 0 ag, .slice aP 0 ap, .slice aW 0 aw] = S3 at GA3 A3 K3 zz3 ⊢
  have hKb := K3.out.size
  refine (cI.out _).mono ?_
  rintro e w4 ⟨bA, bG, bP, bW, bc, bg, bp, bw, bi, rfl, hcb, htb, hb⟩
  have hlB : ∀ k, Tx.blkA bA = some k → S3.heap.size ≤ k ∧ k < w4.heap.size := fun k e => hcb.lt e
  have hsz2 := hb.size
  have GA4 := Lib.hid (Tx.blk_on hb GA3.out)
  have A4 := Lib.hid (A3.out.on hb)
  have K4 := Lib.hid (K3.out.trans (hb.mono K3.out.size))
  clear hb GA3 K3 A3
  have B4 := Lib.hid hcb
  clear hcb
  obtain ⟨V5, hV5⟩ : ∃ V, w4.alloc (.cells #[.int .i64 0, .int .i64 0, .int .i64 0, .slice none 0 0, .slice none 0 0, .slice none 0 0, .slice none 0 0] 27) = V := ⟨_, rfl⟩
  have ltV5GA : w1.heap.size < w4.heap.size := Tx.blk_in GA4.out
  have GA5 : Hid (V5.heap[w1.heap.size]? = some (.cells #[.int .i64 s, .int .i64 0, .int .i64 s, .slice aA n ac, .slice aG 0 ag, .slice aP 0 ap, .slice aW 0 aw] 27)) := by rw [← hV5]; exact Tx.alloc_blk GA4.out
  have hb : Below w4.heap.size w4 V5 := by rw [← hV5]; exact (Below.refl _ w4).alloc (Nat.le_refl _) _
  have A5 := Lib.hid (A4.out.on hb)
  have B5 := Lib.hid (B4.out.on hb)
  have K5 := Lib.hid (K4.out.trans (hb.mono K4.out.size))
  have GB5 : Hid (V5.heap[w4.heap.size]? = some (.cells #[.int .i64 0, .int .i64 0, .int .i64 0, .slice none 0 0, .slice none 0 0, .slice none 0 0, .slice none 0 0] 27)) := by rw [← hV5]; exact Tx.heap1 w4 _
  have lbV5 : w.heap.size ≤ w4.heap.size := K4.out.size
  clear hb GA4 K4 A4 B4
  have zaV5 : V5.heap.size = w4.heap.size + 1 := by rw [← hV5]; simp
  have GA6 : Hid ((V5.setRow w4.heap.size #[.int .i64 s, .int .i64 0, .int .i64 s, .slice bA n bc, .slice bG 0 bg, .slice bP 0 bp, .slice bW 0 bw]).heap[w1.heap.size]? = some (.cells #[.int .i64 s, .int .i64 0, .int .i64 s, .slice aA n ac, .slice aG 0 ag, .slice aP 0 ap, .slice aW 0 aw] 27)) := (setRow_other _ _ _ _ (by omega)).trans GA5.out
  have GB6 : Hid ((V5.setRow w4.heap.size #[.int .i64 s, .int .i64 0, .int .i64 s, .slice bA n bc, .slice bG 0 bg, .slice bP 0 bp, .slice bW 0 bw]).heap[w4.heap.size]? = some (.cells #[.int .i64 s, .int .i64 0, .int .i64 s, .slice bA n bc, .slice bG 0 bg, .slice bP 0 bp, .slice bW 0 bw] 27)) := setRow_heap _ _ _ _ _ _ GB5.out
  have K6 : Hid (Below w.heap.size w (V5.setRow w4.heap.size #[.int .i64 s, .int .i64 0, .int .i64 s, .slice bA n bc, .slice bG 0 bg, .slice bP 0 bp, .slice bW 0 bw])) := below_setRow K5.out (by omega) _
  have A6 : Hid (Tx.OutE (V5.setRow w4.heap.size #[.int .i64 s, .int .i64 0, .int .i64 s, .slice bA n bc, .slice bG 0 bg, .slice bP 0 bp, .slice bW 0 bw]) w.heap.size 41 aA n ac ai) := A5.out.heap (fun k e => setRow_other _ _ _ _ (by have h1 := hlA k e; omega))
  have B6 : Hid (Tx.OutE (V5.setRow w4.heap.size #[.int .i64 s, .int .i64 0, .int .i64 s, .slice bA n bc, .slice bG 0 bg, .slice bP 0 bp, .slice bW 0 bw]) S3.heap.size 41 bA n bc bi) := B5.out.heap (fun k e => setRow_other _ _ _ _ (by have h1 := hlB k e; omega))
  clear A5 B5
  have zz6 := size_setRow V5 (w4.heap.size) #[.int .i64 s, .int .i64 0, .int .i64 s, .slice bA n bc, .slice bG 0 bg, .slice bP 0 bp, .slice bW 0 bw]
  go_wp2_with (first | (refine wpList_store_row rfl 27 _ _ rfl (w4.heap.size) #[.int .i64 s, .int .i64 0, .int .i64 s, .slice bA n bc, .slice bG 0 bg, .slice bP 0 bp, .slice bW 0 bw] rfl rfl 27 _ GB5.out (by kernel_rfl) rfl (by simp [Value.oneCell']) ?_) | (refine wpList_load_row rfl 27 _ rfl (w4.heap.size) rfl 27 _ (0, 0) _ GB6.out Try.underlying27 rfl (by kernel_rfl) ?_) | (refine wpList_load_row rfl 27 _ rfl (w1.heap.size) rfl 27 _ (0, 0) _ GA6.out Try.underlying27 rfl (by kernel_rfl) ?_))
  clear hV5 GA5 GB5 K5
  generalize V5.setRow w4.heap.size #[.int .i64 s, .int .i64 0, .int .i64 s, .slice bA n bc, .slice bG 0 bg, .slice bP 0 bp, .slice bW 0 bw] = S6 at GA6 GB6 A6 B6 K6 zz6 ⊢
  refine (Tx.eqWorld_bare s n bA aA bG aG bP aP bW aW bc ac bg ag bp ap bw aw bi ai _ B6.out.elts A6.out.elts (ht.out _ _ htb hta) hn).mono ?_
  rintro e w7 ⟨rfl, hb⟩
  have hsz3 := hb.size
  have GA7 := Lib.hid (Tx.blk_on hb GA6.out)
  have GB7 := Lib.hid (Tx.blk_on hb GB6.out)
  have A7 := Lib.hid (A6.out.on hb)
  have B7 := Lib.hid (B6.out.on hb)
  have K7 := Lib.hid (K6.out.trans (hb.mono K6.out.size))
  clear hb GA6 GB6 K6 A6 B6
  go_wp2_with (refine wpList_load_row rfl 27 _ rfl (w4.heap.size) rfl 27 _ (0, 0) _ GB7.out Try.underlying27 rfl (by kernel_rfl) ?_)
  refine (Tx.markWorld_bare s n bA bG bP bW bc bg bp bw 1 _ bi _ B7.out (by omega) hn).mono ?_
  rintro e wm ⟨rfl, hF, gr⟩
  have hsg := gr.size
  clear B7
  have GA8 : Hid (wm.heap[w1.heap.size]? = some (.cells #[.int .i64 s, .int .i64 0, .int .i64 s, .slice aA n ac, .slice aG 0 ag, .slice aP 0 ap, .slice aW 0 aw] 27)) := (gr.block _ (Tx.blk_in GA7.out) (fun e => by have h1 := hlB _ e.symm; omega)).trans GA7.out
  have GB8 : Hid (wm.heap[w4.heap.size]? = some (.cells #[.int .i64 s, .int .i64 0, .int .i64 s, .slice bA n bc, .slice bG 0 bg, .slice bP 0 bp, .slice bW 0 bw] 27)) := (gr.block _ (Tx.blk_in GB7.out) (fun e => by have h1 := hlB _ e.symm; omega)).trans GB7.out
  have A8 : Hid (Tx.OutE wm w.heap.size 41 aA n ac ai) := A7.out.heap (fun k e => gr.block _ (A7.out.lt e).2 (fun e1 => by have h1 := hlA k e; have h2 := hlB k e1.symm; omega))
  have K8 : Hid (Below w.heap.size w wm) := K7.out.grown gr K7.out.size (fun j e => by have := hlB j e; omega)
  clear GA7 GB7 A7 K7
  have F8 : Hid (Tx.FillZ wm bA n (Tx.zMarks 1 bi)) := hF
  clear hF gr
  have hlF := hlB
  obtain ⟨m2, hm2⟩ : ∃ m, 1 + n = m := ⟨_, rfl⟩
  rw [hm2]
  have hm3 : ¬ (m2 : Int) < 0 := by omega
  have hmm : ((m2 : Int) != (m2 : Int)) = false := by simp
  go_wp2_with (refine wpList_load_row rfl 27 _ rfl (w4.heap.size) rfl 27 _ (0, 0) _ GB8.out Try.underlying27 rfl (by kernel_rfl) ?_)
  have ch := Tx.heldWorld_bare s n bA bG bP bW bc bg bp bw 1 bi _ F8.out (by omega) hn
  rw [hm2] at ch
  refine (ch).mono ?_
  rintro e w31 ⟨rfl, hb⟩
  clear ch
  have hsz4 := hb.size
  have GA9 := Lib.hid (Tx.blk_on hb GA8.out)
  have GB9 := Lib.hid (Tx.blk_on hb GB8.out)
  have A9 := Lib.hid (A8.out.on hb)
  have F9 := Lib.hid (F8.out.on hb)
  have K9 := Lib.hid (K8.out.trans (hb.mono K8.out.size))
  clear hb GA8 GB8 K8 A8 F8
  go_wp2_with fail
  have hKc := K9.out.size
  refine (cI.out _).mono ?_
  rintro e w32 ⟨cA, cG, cP, cW, cc, cg, cp, cw, ci, rfl, hcc, htc, hb⟩
  have hlC : ∀ k, Tx.blkA cA = some k → w31.heap.size ≤ k ∧ k < w32.heap.size := fun k e => hcc.lt e
  have hsz5 := hb.size
  have GA10 := Lib.hid (Tx.blk_on hb GA9.out)
  have GB10 := Lib.hid (Tx.blk_on hb GB9.out)
  have A10 := Lib.hid (A9.out.on hb)
  have F10 := Lib.hid (F9.out.on hb)
  have K10 := Lib.hid (K9.out.trans (hb.mono K9.out.size))
  clear hb GA9 GB9 K9 A9 F9
  have C10 := Lib.hid hcc
  clear hcc
  obtain ⟨V33, hV33⟩ : ∃ V, w32.alloc (.cells #[.int .i64 0, .int .i64 0, .int .i64 0, .slice none 0 0, .slice none 0 0, .slice none 0 0, .slice none 0 0] 27) = V := ⟨_, rfl⟩
  have ltV33GA : w1.heap.size < w32.heap.size := Tx.blk_in GA10.out
  have ltV33GB : w4.heap.size < w32.heap.size := Tx.blk_in GB10.out
  have GA11 : Hid (V33.heap[w1.heap.size]? = some (.cells #[.int .i64 s, .int .i64 0, .int .i64 s, .slice aA n ac, .slice aG 0 ag, .slice aP 0 ap, .slice aW 0 aw] 27)) := by rw [← hV33]; exact Tx.alloc_blk GA10.out
  have GB11 : Hid (V33.heap[w4.heap.size]? = some (.cells #[.int .i64 s, .int .i64 0, .int .i64 s, .slice bA n bc, .slice bG 0 bg, .slice bP 0 bp, .slice bW 0 bw] 27)) := by rw [← hV33]; exact Tx.alloc_blk GB10.out
  have hb : Below w32.heap.size w32 V33 := by rw [← hV33]; exact (Below.refl _ w32).alloc (Nat.le_refl _) _
  have A11 := Lib.hid (A10.out.on hb)
  have F11 := Lib.hid (F10.out.on hb)
  have C11 := Lib.hid (C10.out.on hb)
  have K11 := Lib.hid (K10.out.trans (hb.mono K10.out.size))
  have GC11 : Hid (V33.heap[w32.heap.size]? = some (.cells #[.int .i64 0, .int .i64 0, .int .i64 0, .slice none 0 0, .slice none 0 0, .slice none 0 0, .slice none 0 0] 27)) := by rw [← hV33]; exact Tx.heap1 w32 _
  have lbV33 : w.heap.size ≤ w32.heap.size := K10.out.size
  clear hb GA10 GB10 K10 A10 F10 C10
  have zaV33 : V33.heap.size = w32.heap.size + 1 := by rw [← hV33]; simp
  have GA12 : Hid ((V33.setRow w32.heap.size #[.int .i64 s, .int .i64 0, .int .i64 s, .slice cA n cc, .slice cG 0 cg, .slice cP 0 cp, .slice cW 0 cw]).heap[w1.heap.size]? = some (.cells #[.int .i64 s, .int .i64 0, .int .i64 s, .slice aA n ac, .slice aG 0 ag, .slice aP 0 ap, .slice aW 0 aw] 27)) := (setRow_other _ _ _ _ (by omega)).trans GA11.out
  have GB12 : Hid ((V33.setRow w32.heap.size #[.int .i64 s, .int .i64 0, .int .i64 s, .slice cA n cc, .slice cG 0 cg, .slice cP 0 cp, .slice cW 0 cw]).heap[w4.heap.size]? = some (.cells #[.int .i64 s, .int .i64 0, .int .i64 s, .slice bA n bc, .slice bG 0 bg, .slice bP 0 bp, .slice bW 0 bw] 27)) := (setRow_other _ _ _ _ (by omega)).trans GB11.out
  have GC12 : Hid ((V33.setRow w32.heap.size #[.int .i64 s, .int .i64 0, .int .i64 s, .slice cA n cc, .slice cG 0 cg, .slice cP 0 cp, .slice cW 0 cw]).heap[w32.heap.size]? = some (.cells #[.int .i64 s, .int .i64 0, .int .i64 s, .slice cA n cc, .slice cG 0 cg, .slice cP 0 cp, .slice cW 0 cw] 27)) := setRow_heap _ _ _ _ _ _ GC11.out
  have K12 : Hid (Below w.heap.size w (V33.setRow w32.heap.size #[.int .i64 s, .int .i64 0, .int .i64 s, .slice cA n cc, .slice cG 0 cg, .slice cP 0 cp, .slice cW 0 cw])) := below_setRow K11.out (by omega) _
  have A12 : Hid (Tx.OutE (V33.setRow w32.heap.size #[.int .i64 s, .int .i64 0, .int .i64 s, .slice cA n cc, .slice cG 0 cg, .slice cP 0 cp, .slice cW 0 cw]) w.heap.size 41 aA n ac ai) := A11.out.heap (fun k e => setRow_other _ _ _ _ (by have h1 := hlA k e; omega))
  have F12 : Hid (Tx.FillZ (V33.setRow w32.heap.size #[.int .i64 s, .int .i64 0, .int .i64 s, .slice cA n cc, .slice cG 0 cg, .slice cP 0 cp, .slice cW 0 cw]) bA n (Tx.zMarks 1 bi)) := F11.out.heap (fun k e => setRow_other _ _ _ _ (by have h1 := hlF k e; omega))
  have C12 : Hid (Tx.OutE (V33.setRow w32.heap.size #[.int .i64 s, .int .i64 0, .int .i64 s, .slice cA n cc, .slice cG 0 cg, .slice cP 0 cp, .slice cW 0 cw]) w31.heap.size 41 cA n cc ci) := C11.out.heap (fun k e => setRow_other _ _ _ _ (by have h1 := hlC k e; omega))
  clear A11 F11 C11
  have zz12 := size_setRow V33 (w32.heap.size) #[.int .i64 s, .int .i64 0, .int .i64 s, .slice cA n cc, .slice cG 0 cg, .slice cP 0 cp, .slice cW 0 cw]
  go_wp2_with (first | (refine wpList_store_row rfl 27 _ _ rfl (w32.heap.size) #[.int .i64 s, .int .i64 0, .int .i64 s, .slice cA n cc, .slice cG 0 cg, .slice cP 0 cp, .slice cW 0 cw] rfl rfl 27 _ GC11.out (by kernel_rfl) rfl (by simp [Value.oneCell']) ?_) | (refine wpList_load_row rfl 27 _ rfl (w32.heap.size) rfl 27 _ (0, 0) _ GC12.out Try.underlying27 rfl (by kernel_rfl) ?_) | (refine wpList_load_row rfl 27 _ rfl (w1.heap.size) rfl 27 _ (0, 0) _ GA12.out Try.underlying27 rfl (by kernel_rfl) ?_))
  clear hV33 GA11 GB11 GC11 K11
  generalize V33.setRow w32.heap.size #[.int .i64 s, .int .i64 0, .int .i64 s, .slice cA n cc, .slice cG 0 cg, .slice cP 0 cp, .slice cW 0 cw] = S34 at GA12 GB12 GC12 A12 F12 C12 K12 zz12 ⊢
  refine (Tx.eqWorld_bare s n cA aA cG aG cP aP cW aW cc ac cg ag cp ap cw aw ci ai _ C12.out.elts A12.out.elts (ht.out _ _ htc hta) hn).mono ?_
  rintro e w35 ⟨rfl, hb⟩
  have hsz6 := hb.size
  have GA13 := Lib.hid (Tx.blk_on hb GA12.out)
  have GB13 := Lib.hid (Tx.blk_on hb GB12.out)
  have GC13 := Lib.hid (Tx.blk_on hb GC12.out)
  have A13 := Lib.hid (A12.out.on hb)
  have F13 := Lib.hid (F12.out.on hb)
  have C13 := Lib.hid (C12.out.on hb)
  have K13 := Lib.hid (K12.out.trans (hb.mono K12.out.size))
  clear hb GA12 GB12 GC12 K12 A12 F12 C12
  go_wp2_with (refine wpList_load_row rfl 27 _ rfl (w4.heap.size) rfl 27 _ (0, 0) _ GB13.out Try.underlying27 rfl (by kernel_rfl) ?_)
  have ch := Tx.heldWorld_bare s n bA bG bP bW bc bg bp bw 1 bi _ F13.out (by omega) hn
  rw [hm2] at ch
  refine (ch).mono ?_
  rintro e w36 ⟨rfl, hb⟩
  clear ch
  have hsz7 := hb.size
  have GA14 := Lib.hid (Tx.blk_on hb GA13.out)
  have GB14 := Lib.hid (Tx.blk_on hb GB13.out)
  have GC14 := Lib.hid (Tx.blk_on hb GC13.out)
  have A14 := Lib.hid (A13.out.on hb)
  have F14 := Lib.hid (F13.out.on hb)
  have C14 := Lib.hid (C13.out.on hb)
  have K14 := Lib.hid (K13.out.trans (hb.mono K13.out.size))
  clear hb GA13 GB13 GC13 K13 A13 F13 C13
  go_wp2
  go_ret
  exact ⟨rfl, K14.out⟩

theorem own : ownKnob Try.prog.godebug = none := by kernel_rfl
theorem laidOut : laidOutB Try.prog = true := by kernel_rfl

set_option maxRecDepth 100000 in
theorem lifted (os : Os) (started : os.Started) (H : Type) (enc : TypeId × Value → H) :
    ReturnsInHanded {} Try.checked os 3 .any (Rows.fnExactNewWorldSpec.pre6 enc Try.prog Try.f3 Rows.fnExactNewWorldRow.domain false) (Rows.fnExactNewWorldSpec.post enc Try.prog Try.f3 false true false false) := by
  refine returnsInHanded_of_change (C := Try.checked) own started (by kernel_rfl) Try.func3
    (ChangeSpec.witness6 (enc := enc) (C := Try.checked) false ⟨#[], #[.int .i64 0], []⟩ 8 (by kernel_rfl) (by kernel_rfl) (by kernel_rfl) (by kernel_rfl)) ?_
  intro W base args ds gs before hval0 hW hcnd _
  have hval : ∀ (j : Nat) t v, Try.f3.params[j]? = some t → args[j]? = some v → Value.okWide Try.prog W .any base t v := hval0
  have hW' := hW
  obtain ⟨p, q, hA0, hV, rfl, hfz, hnd⟩ := hW
  have hA : DataW.TrodAll enc Try.prog W 0 (fun _ => true) true Try.f3.params.toList args.toList ds p := hA0
  rw [Try.params3] at hA hval
  obtain ⟨v0, vs0, d0, ds0, p0, q0, hargs, rfl, rfl, h0, r0⟩ := trodAll_cons hA
  obtain ⟨rfl, rfl, rfl⟩ := trodAll_nil r0
  obtain rfl : args = #[v0] := by cases args; simp_all
  obtain ⟨rfl, rfl⟩ := trodVars_none hV
  have k0 := h0
  have lt0 : ∀ x ∈ p0, x.block < W.heap.size := by obtain ⟨m, hm⟩ := k0; exact DataW.trod_lt m _ _ _ hm
  obtain ⟨a0, rfl, rfl, rfl, w0⟩ := open_int Try.underlying2 (hval 0 2 v0 rfl rfl) h0
  clear hA0 hval0
  refine (walk W a0 w0).mono fun e W' ⟨he, bel⟩ => ?_
  subst he
  exact ⟨_, rfl, _, _, _, [], _, [], hW', trodAll_mk1 (shut_bool Try.underlying4 _), (trodAll_cons_mk (Below.trod laidOut (by kernel_rfl) (of_decide_eq_true (by kernel_rfl)) k0 bel lt0) trodAll_mk0), rfl, bel.frame _, fun h => by cases h⟩

theorem over : Rows.fnExactNewWorldRow.holds Try.pinned (OpenSpec.ofChange Rows.fnExactNewWorldSpec) :=
  OpenClaim.holds_of_wide 3 Try.f3 rfl rfl rfl rfl rfl rfl rfl ⟨rfl, rfl, rfl, rfl, rfl⟩ rfl rfl rfl rfl rfl (by kernel_rfl) Try.func3 (by kernel_rfl)
    (of_decide_eq_true (by kernel_rfl)) (by unfold Func.isWrapper; first | (rw [if_pos (by decide +kernel)]; kernel_rfl) | (rw [if_neg (by decide +kernel)]; exact ⟨rfl, rfl⟩))
    (fun os started H enc _ => lifted os started H enc)

end Go.Proofs.Ytakhjdodljhfmaa.fnExactNewWorld

namespace Go.Proofs.Ytakhjdodljhfmaa
theorem fnExactNewWorld_proved : Rows.FnExactNewWorldSaid := fnExactNewWorld.over
#print axioms fnExactNewWorld_proved
end Go.Proofs.Ytakhjdodljhfmaa
