/-
  The law FnExactNewMemory returns true at every number, and they read behind the call as they read before: NewMemory of the program and of the model answer alike, in memory of the call's own. No condition.
-/
import Derived.Test.YtdpdbidjbidmaaaRows
import Derived.WalkKit
import Derived.ProofKit
import Derived.OpenShut
import Derived.ShutString
import Derived.ChangeOld
import Derived.Below
import Derived.SliceStrings
import Derived.Lib.SmallJoins
import Derived.Test.YtdpdbidjbidmaaaOpen8
import Derived.Test.YtdpdbidjbidmaaaImpl8d
namespace Go.Proofs.Ytdpdbidjbidmaaa.fnExactNewMemory
open Go.ChangeShapes Go.WideShapes Go.ChangeAt Go.RowKit
open Go.ChangeMaps (open_string shut_string)
set_option linter.unusedVariables false

set_option maxRecDepth 100000 in
set_option maxHeartbeats 16000000 in
theorem walk (w : World) (x : Int) (_ : (Lit.int .i64 x).wf = true) :
    Calls Try.prog 5 #[.int .i64 x] w fun e w' => e = .returned (.bool true) ∧ Below w.heap.size w w' := by
  have K := Lib.hid (Below.refl w.heap.size w)
  obtain ⟨out, hout⟩ : ∃ o, ([] : List Int) = o := ⟨_, rfl⟩
  have hol : out.length ≤ 1048576 := by rw [← hout]; simp
  obtain ⟨t, ht⟩ : ∃ o, Tx.sinceI [] x = o := ⟨_, rfl⟩
  obtain ⟨y, hy⟩ : ∃ o, Tx.memB [] x = o := ⟨_, rfl⟩
  have hyy : (y != y) = false := by simp
  have cS : Hid (∀ (w' : World), Calls Try.prog 23 #[.int .i64 x] w' fun e w'' => ∃ (B : Option Addr) (c : Nat), e = .returned (.tuple #[.agg #[.slice B out.length c, .int .i64 t], .bool y]) ∧ Tx.OwnN w'' w'.heap.size out B out.length c ∧ Below w'.heap.size w' w'') := fun w' => by
    have h1 := Tx.NewMemory_spec x w'
    rw [ht, hy, hout] at h1
    exact h1.mono fun e w'' ⟨B, m, c, he, ho, hb⟩ => by obtain rfl := ho.len; exact ⟨B, c, he, ho, hb⟩
  have cI : Hid (∀ (w' : World), Calls Try.prog 15 #[.int .i64 x] w' fun e w'' => ∃ (B : Option Addr) (c : Nat), e = .returned (.tuple #[.agg #[.slice B out.length c, .int .i64 t], .bool y]) ∧ Tx.OwnN w'' w'.heap.size out B out.length c ∧ Below w'.heap.size w' w'') := fun w' => by
    have h1 := Tx.NewMemory_impl x w'
    rw [ht, hy, hout] at h1
    exact h1.mono fun e w'' ⟨B, m, c, he, ho, hb⟩ => by obtain rfl := ho.len; exact ⟨B, c, he, ho, hb⟩
  clear hout ht hy
  go_enter Try.func5, Try.ntmps5
  go_wp2_with fail
  refine (cS.out _).mono ?_
  rintro e w3 ⟨B, c, rfl, ho, b⟩
  have P0 := Lib.hid ho
  have hlP : ∀ k, Tx.blkN B = some k → w.heap.size ≤ k ∧ k < w3.heap.size := fun k e => ho.lt e
  clear ho
  have t1 := b.size
  replace K := Lib.hid (K.out.trans (b.mono K.out.size))
  clear b
  have P := P0
  clear P0
  clear cS
  obtain ⟨W4, hW4⟩ : ∃ W, w3.alloc (.cells #[.slice B out.length c, .int .i64 t] 26) = W := ⟨_, rfl⟩
  have b : Below w3.heap.size w3 W4 := hW4 ▸ (Below.refl _ w3).alloc (Nat.le_refl _) _
  have GW0 : Hid (W4.heap[w3.heap.size]? = some (.cells #[.slice B out.length c, .int .i64 t] 26)) := by rw [← hW4]; exact Tx.heap1 w3 _
  have uW4 : w3.heap.size < W4.heap.size := by rw [← hW4]; simp
  have t2 := b.size
  replace K := Lib.hid (K.out.trans (b.mono K.out.size))
  replace P := Lib.hid (P.out.on b)
  clear b
  have GW := GW0
  clear GW0
  go_wp2_with fail
  clear hW4
  refine (cI.out _).mono ?_
  rintro e w7 ⟨D, d, rfl, ho, b⟩
  have Q0 := Lib.hid ho
  have hlQ : ∀ k, Tx.blkN D = some k → W4.heap.size ≤ k ∧ k < w7.heap.size := fun k e => ho.lt e
  clear ho
  have t3 := b.size
  replace K := Lib.hid (K.out.trans (b.mono K.out.size))
  replace P := Lib.hid (P.out.on b)
  replace GW := Lib.hid (Tx.blk_on b GW.out)
  clear b
  have Q := Q0
  clear Q0
  obtain ⟨W8, hW8⟩ : ∃ W, w7.alloc (.cells #[.slice D out.length d, .int .i64 t] 26) = W := ⟨_, rfl⟩
  have b : Below w7.heap.size w7 W8 := hW8 ▸ (Below.refl _ w7).alloc (Nat.le_refl _) _
  have GG0 : Hid (W8.heap[w7.heap.size]? = some (.cells #[.slice D out.length d, .int .i64 t] 26)) := by rw [← hW8]; exact Tx.heap1 w7 _
  have uW8 : w7.heap.size < W8.heap.size := by rw [← hW8]; simp
  have t4 := b.size
  replace K := Lib.hid (K.out.trans (b.mono K.out.size))
  replace P := Lib.hid (P.out.on b)
  replace GW := Lib.hid (Tx.blk_on b GW.out)
  replace Q := Lib.hid (Q.out.on b)
  clear b
  have GG := GG0
  clear GG0
  obtain ⟨⟨c0, c1⟩, _⟩ := Tx.blk2 GG.out
  obtain ⟨⟨d0, d1⟩, _⟩ := Tx.blk2 GW.out
  go_wp2_with fail
  clear c0 c1 d0 d1 hW8
  refine (Tx.eqMemory_same D B out.length d c out t _ Q.out.nums P.out.nums hol).mono ?_
  rintro e w9 ⟨rfl, b⟩
  have t5 := b.size
  replace K := Lib.hid (K.out.trans (b.mono K.out.size))
  replace P := Lib.hid (P.out.on b)
  replace GW := Lib.hid (Tx.blk_on b GW.out)
  replace Q := Lib.hid (Q.out.on b)
  replace GG := Lib.hid (Tx.blk_on b GG.out)
  clear b
  obtain ⟨mm, hmm⟩ : ∃ m : Nat, 1 + out.length = m := ⟨_, rfl⟩
  have hm0 : ¬ (mm : Int) < 0 := by omega
  have HMM := Lib.hid hmm
  clear hmm
  obtain ⟨⟨c0, c1⟩, _⟩ := Tx.blk2 GG.out
  go_wp2_with fail
  clear c0 c1
  refine (Tx.markMemory_any D out.length d out t 1 W4.heap.size _ Q.out hol (by omega)).mono ?_
  rintro e w13 ⟨rfl, m, gr⟩
  rw [HMM.out]
  have Q1 := Lib.hid m
  clear m
  have t6 := gr.size
  replace K := Lib.hid (K.out.grown gr K.out.size (fun j e => by have := hlQ j e; omega))
  replace P := Lib.hid (P.out.kept gr (fun k e e2 => by have h1 := hlP k e; have h2 := hlQ k e2; omega))
  replace GW := Lib.hid ((gr.block _ (Tx.blk_in GW.out) (fun e => by have := hlQ _ e.symm; omega)).trans GW.out)
  replace GG := Lib.hid ((gr.block _ (Tx.blk_in GG.out) (fun e => by have := hlQ _ e.symm; omega)).trans GG.out)
  clear gr
  replace Q := Q1
  clear Q1
  obtain ⟨⟨c0, c1⟩, _⟩ := Tx.blk2 GG.out
  go_wp2_with fail
  clear c0 c1
  refine (Tx.heldMemory_any D out.length d t 1 _ Q.out.nums hol (by omega)).mono ?_
  rw [HMM.out]
  rintro e w14 ⟨rfl, b⟩
  have t7 := b.size
  replace K := Lib.hid (K.out.trans (b.mono K.out.size))
  replace P := Lib.hid (P.out.on b)
  replace GW := Lib.hid (Tx.blk_on b GW.out)
  replace Q := Lib.hid (Q.out.on b)
  replace GG := Lib.hid (Tx.blk_on b GG.out)
  clear b
  go_wp2_with fail
  refine (cI.out _).mono ?_
  rintro e w16 ⟨E, f, rfl, ho, b⟩
  have R0 := Lib.hid ho
  have hlR : ∀ k, Tx.blkN E = some k → w14.heap.size ≤ k ∧ k < w16.heap.size := fun k e => ho.lt e
  clear ho
  have t8 := b.size
  replace K := Lib.hid (K.out.trans (b.mono K.out.size))
  replace P := Lib.hid (P.out.on b)
  replace GW := Lib.hid (Tx.blk_on b GW.out)
  replace Q := Lib.hid (Q.out.on b)
  replace GG := Lib.hid (Tx.blk_on b GG.out)
  clear b
  have R := R0
  clear R0
  clear cI
  obtain ⟨W17, hW17⟩ : ∃ W, w16.alloc (.cells #[.slice E out.length f, .int .i64 t] 26) = W := ⟨_, rfl⟩
  have b : Below w16.heap.size w16 W17 := hW17 ▸ (Below.refl _ w16).alloc (Nat.le_refl _) _
  have GH0 : Hid (W17.heap[w16.heap.size]? = some (.cells #[.slice E out.length f, .int .i64 t] 26)) := by rw [← hW17]; exact Tx.heap1 w16 _
  have uW17 : w16.heap.size < W17.heap.size := by rw [← hW17]; simp
  have t9 := b.size
  replace K := Lib.hid (K.out.trans (b.mono K.out.size))
  replace P := Lib.hid (P.out.on b)
  replace GW := Lib.hid (Tx.blk_on b GW.out)
  replace Q := Lib.hid (Q.out.on b)
  replace GG := Lib.hid (Tx.blk_on b GG.out)
  replace R := Lib.hid (R.out.on b)
  clear b
  have GH := GH0
  clear GH0
  obtain ⟨⟨c0, c1⟩, _⟩ := Tx.blk2 GH.out
  obtain ⟨⟨d0, d1⟩, _⟩ := Tx.blk2 GW.out
  go_wp2_with fail
  clear c0 c1 d0 d1 hW17
  refine (Tx.eqMemory_same E B out.length f c out t _ R.out.nums P.out.nums hol).mono ?_
  rintro e w18 ⟨rfl, b⟩
  have t10 := b.size
  replace K := Lib.hid (K.out.trans (b.mono K.out.size))
  replace P := Lib.hid (P.out.on b)
  replace GW := Lib.hid (Tx.blk_on b GW.out)
  replace Q := Lib.hid (Q.out.on b)
  replace GG := Lib.hid (Tx.blk_on b GG.out)
  replace R := Lib.hid (R.out.on b)
  replace GH := Lib.hid (Tx.blk_on b GH.out)
  clear b
  obtain ⟨⟨c0, c1⟩, _⟩ := Tx.blk2 GG.out
  go_wp2_with fail
  clear c0 c1
  refine (Tx.heldMemory_any D out.length d t 1 _ Q.out.nums hol (by omega)).mono ?_
  rw [HMM.out]
  rintro e w19 ⟨rfl, b⟩
  have t11 := b.size
  replace K := Lib.hid (K.out.trans (b.mono K.out.size))
  replace P := Lib.hid (P.out.on b)
  replace GW := Lib.hid (Tx.blk_on b GW.out)
  replace Q := Lib.hid (Q.out.on b)
  replace GG := Lib.hid (Tx.blk_on b GG.out)
  replace R := Lib.hid (R.out.on b)
  replace GH := Lib.hid (Tx.blk_on b GH.out)
  clear b
  go_wp2
  go_ret
  exact ⟨rfl, K.out⟩

theorem own : ownKnob Try.prog.godebug = none := by kernel_rfl
theorem laidOut : laidOutB Try.prog = true := by kernel_rfl

set_option maxRecDepth 100000 in
theorem lifted (os : Os) (started : os.Started) (H : Type) (enc : TypeId × Value → H) :
    ReturnsInHanded {} Try.checked os 5 .any (Rows.fnExactNewMemorySpec.pre6 enc Try.prog Try.f5 Rows.fnExactNewMemoryRow.domain false) (Rows.fnExactNewMemorySpec.post enc Try.prog Try.f5 false true false false) := by
  refine returnsInHanded_of_change (C := Try.checked) own started (by kernel_rfl) Try.func5
    (ChangeSpec.witness6 (enc := enc) (C := Try.checked) false ⟨#[], #[.int .i64 0], []⟩ 8 (by kernel_rfl) (by kernel_rfl) (by kernel_rfl) (by kernel_rfl)) ?_
  intro W base args ds gs before hval0 hW hcnd _
  have hval : ∀ (j : Nat) t v, Try.f5.params[j]? = some t → args[j]? = some v → Value.okWide Try.prog W .any base t v := hval0
  have hW' := hW
  obtain ⟨p, q, hA0, hV, rfl, hfz, hnd⟩ := hW
  have hA : DataW.TrodAll enc Try.prog W 0 (fun _ => true) true Try.f5.params.toList args.toList ds p := hA0
  rw [Try.params5] at hA hval
  obtain ⟨v0, vs0, d0, ds0, p0, q0, hargs, rfl, rfl, h0, r0⟩ := trodAll_cons hA
  obtain ⟨rfl, rfl, rfl⟩ := trodAll_nil r0
  obtain rfl : args = #[v0] := by cases args; simp_all
  obtain ⟨rfl, rfl⟩ := trodVars_none hV
  have k0 := h0
  have lt0 : ∀ x ∈ p0, x.block < W.heap.size := by obtain ⟨m, hm⟩ := k0; exact DataW.trod_lt m _ _ _ hm
  obtain ⟨a0, rfl, rfl, rfl, w0⟩ := open_int Try.underlying2 (hval 0 2 v0 rfl rfl) h0
  clear hA0 hval0
  refine (walk W a0 w0).mono fun e W' ⟨he, bel⟩ => ?_
  subst he
  exact ⟨_, rfl, _, _, _, [], _, [], hW', trodAll_mk1 (shut_bool Try.underlying4 _), (trodAll_cons_mk (Below.trod laidOut (by kernel_rfl) (of_decide_eq_true (by kernel_rfl)) k0 bel lt0) trodAll_mk0), rfl, bel.frame _, fun h => by cases h⟩

theorem over : Rows.fnExactNewMemoryRow.holds Try.pinned (OpenSpec.ofChange Rows.fnExactNewMemorySpec) :=
  OpenClaim.holds_of_wide 5 Try.f5 rfl rfl rfl rfl rfl rfl rfl ⟨rfl, rfl, rfl, rfl, rfl⟩ rfl rfl rfl rfl rfl (by kernel_rfl) Try.func5 (by kernel_rfl)
    (of_decide_eq_true (by kernel_rfl)) (by unfold Func.isWrapper; first | (rw [if_pos (by decide +kernel)]; kernel_rfl) | (rw [if_neg (by decide +kernel)]; exact ⟨rfl, rfl⟩))
    (fun os started H enc _ => lifted os started H enc)

end Go.Proofs.Ytdpdbidjbidmaaa.fnExactNewMemory

namespace Go.Proofs.Ytdpdbidjbidmaaa
theorem fnExactNewMemory_proved : Rows.FnExactNewMemorySaid := fnExactNewMemory.over
#print axioms fnExactNewMemory_proved
end Go.Proofs.Ytdpdbidjbidmaaa
