/-
  The law FnExactFallen returns true at every inn and number, and they read behind the call as they read before: Fallen of the program and of the model answer alike, and what the program answers is new memory. No condition.
-/
import Derived.Test.YtioogmeghmeelaaGreatRows
import Derived.WalkKit
import Derived.ProofKit
import Derived.OpenShut
import Derived.ShutString
import Derived.ChangeOld
import Derived.Below
import Derived.SliceStrings
import Derived.Lib.SmallJoins
import Derived.Test.YtioogmeghmeelaaGreatOpen15
import Derived.Test.YtioogmeghmeelaaGreatInn5
import Derived.Test.YtioogmeghmeelaaGreatInn7
import Derived.Test.YtioogmeghmeelaaGreatInn11
import Derived.Test.YtioogmeghmeelaaGreatImpl15d
import Derived.Test.YtioogmeghmeelaaGreatInn10
namespace Go.Proofs.YtioogmeghmeelaaGreat.fnExactFallen
open Go.ChangeShapes Go.WideShapes Go.ChangeAt Go.RowKit
open Go.ChangeMaps (open_string shut_string)
set_option linter.unusedVariables false

set_option maxRecDepth 100000 in
set_option maxHeartbeats 64000000 in
theorem walk (w : World) (M : Option Addr) (nm cm : Nat) (zs : List Int) (s : Int) (A : Option Addr) (n cap : Nat) (ss : List Tx.SeatL) (h : Tx.InnO w w.heap.size M nm A n zs ss) (hlm : nm ≤ maxLen) (hzi : Tx.AllI64 zs) (hln : n ≤ maxLen) (hlq : ∀ q ∈ ss, q.l.length ≤ maxLen ∧ ∀ t ∈ q.l, t.t.size ≤ maxLen) (k : Int) (_hk : (Lit.int .i64 k).wf = true) :
    Calls Tryz.prog 3 #[.agg #[.slice M nm cm, .int .i64 s, .slice A n cap], .int .i64 k] w fun e w' => e = .returned (.bool true) ∧ Below w.heap.size w w' := by
  have e63 : maxLen = 9223372036854775807 := rfl
  rw [e63] at hlm hln
  have hlq' : ∀ q ∈ ss, q.l.length ≤ 9223372036854775807 ∧ ∀ t ∈ q.l, t.t.size ≤ 9223372036854775807 := fun q hq => by
    have h9 := hlq q hq
    rw [e63] at h9
    exact h9
  have E := Lib.hid h
  have HI64 := Lib.hid hzi
  have hsl := h.seats.len
  clear h hzi hlq e63
  obtain ⟨W0, hW0⟩ : ∃ W, w.alloc (.cells #[.slice M nm cm, .int .i64 s, .slice A n cap] 27) = W := ⟨_, rfl⟩
  have K0 : Hid (Below w.heap.size w W0) := by rw [← hW0]; exact (Below.refl _ w).alloc (Nat.le_refl _) _
  have Q0 : Hid (W0.heap[w.heap.size]? = some (.cells #[.slice M nm cm, .int .i64 s, .slice A n cap] 27)) := by rw [← hW0]; exact Tx.heap1 w _
  have zW0 : W0.heap.size = w.heap.size + 1 := by rw [← hW0]; simp
  go_enter Tryz.func3, Tryz.ntmps3
  go_wp2_with (refine wpList_load_row rfl 27 _ rfl (w.heap.size) rfl 27 _ (0, 0) _ Q0.out Tryz.underlying27 rfl (by kernel_rfl) ?_)
  clear hW0
  have cz := Tx.szInn_any M nm cm zs s A n cap ss W0 ((E.out.below K0.out).mono K0.out.size) hlm hln hlq'
  refine cz.mono ?_
  rintro e w1 ⟨Lf, rfl, hL1, hL2, hb⟩
  have hsz1 := hb.size
  have Q1 := Lib.hid (Tx.blk_on hb Q0.out)
  have K1 := Lib.hid (K0.out.trans (hb.mono K0.out.size))
  clear hb cz hlm hln hlq' Q0 K0
  by_cases hL : Lf < 0
  ·
    go_wp2
    go_ret
    exact ⟨rfl, K1.out⟩
  obtain ⟨hnm, hn, hl⟩ := hL2 (by omega)
  rw [hsl] at hn
  have HLL := Lib.hid hl
  clear hL2 hl
  have cT : Hid (∀ (w' : World), Tx.InnO w' w'.heap.size M nm A n zs ss → Calls Tryz.prog 6 #[.agg #[.slice M nm cm, .int .i64 s, .slice A n cap]] w' fun e w'' => ∃ z : Tx.InnT, e = .returned (.agg #[.slice z.MA nm z.mc, .int .i64 s, .slice z.A n z.c]) ∧ Tx.HeldI w'' w'.heap.size (z.inn nm n) zs ss ∧ Below w'.heap.size w' w'') := fun w' hE => (Tx.toInn_any M nm cm zs s A n cap ss w' hE hnm hn HLL.out).mono fun e w'' ⟨⟨a1, a2, a3, a4, a5, a6, a7⟩, he, e1, e2, m, b1⟩ => by
    obtain rfl : nm = a2 := e1.symm
    obtain rfl : n = a5 := e2.symm
    exact ⟨⟨a1, a3, a4, a6, a7⟩, he, m, b1⟩
  have hsm := Tx.fall_small (zs := zs) (t := s) k HLL.out
  have hzl := E.out.mem.1
  obtain ⟨zo, hzo⟩ : ∃ x, Tx.fallZ zs s ss k = x := ⟨_, rfl⟩
  obtain ⟨lo, hlo⟩ : ∃ x, Tx.fallL zs s ss k = x := ⟨_, rfl⟩
  obtain ⟨so, hso⟩ : ∃ x, Tx.fallT zs s ss k = x := ⟨_, rfl⟩
  obtain ⟨y, hy⟩ : ∃ x, Tx.fallB zs s ss k = x := ⟨_, rfl⟩
  rw [hzo, hlo] at hsm
  obtain ⟨mo, hmo⟩ : ∃ x, zo.length = x := ⟨_, rfl⟩
  obtain ⟨no, hno⟩ : ∃ x, lo.length = x := ⟨_, rfl⟩
  have hmo2 : mo ≤ 1048576 := by omega
  have hno2 : no ≤ 1048576 := by omega
  have HLO := Lib.hid hsm.2.2
  have hyy : (y != y) = false := by simp
  clear hsm
  have cS : Hid (∀ (w' : World) (B : Nat) (z : Tx.InnT), Tx.HeldI w' B (z.inn nm n) zs ss → Calls Tryz.prog 5 #[.agg #[.slice z.MA nm z.mc, .int .i64 s, .slice z.A n z.c], .int .i64 k] w' fun e w'' => ∃ z2 : Tx.InnT, e = .returned (.tuple #[.agg #[.slice z2.MA mo z2.mc, .int .i64 so, .slice z2.A no z2.c], .bool y]) ∧ Tx.HeldI w'' w'.heap.size (z2.inn mo no) zo lo ∧ Below w'.heap.size w' w'') := fun w' B z hE => by
    have h1 := Tx.Fallen_spec _ nm z.mc zs s _ n z.c ss k w' hE.reads (Tx.nil_cap hE.mem) hnm hn HLL.out
    rw [hzo, hlo, hso, hy] at h1
    exact h1.mono fun e w'' ⟨⟨a1, a2, a3, a4, a5, a6, a7⟩, he, m, b1⟩ => by
      obtain rfl : mo = a2 := hmo.symm.trans m.mem.len
      obtain rfl : no = a5 := hno.symm.trans m.seats.len2
      exact ⟨⟨a1, a3, a4, a6, a7⟩, he, m, b1⟩
  have cI : Hid (∀ (w' : World) (B : Nat) (z : Tx.InnT), Tx.HeldI w' B (z.inn nm n) zs ss → Calls Tryz.prog 7 #[.agg #[.slice z.MA nm z.mc, .int .i64 s, .slice z.A n z.c], .int .i64 k] w' fun e w'' => ∃ z2 : Tx.InnT, e = .returned (.tuple #[.agg #[.slice z2.MA mo z2.mc, .int .i64 so, .slice z2.A no z2.c], .bool y]) ∧ Tx.HeldI w'' w'.heap.size (z2.inn mo no) zo lo ∧ Below w'.heap.size w' w'') := fun w' B z hE => by
    have h1 := Tx.Fallen_impl _ nm z.mc zs s _ n z.c ss k w' hE.reads (Tx.nil_cap hE.mem) HI64.out hnm hn HLL.out
    rw [hzo, hlo, hso, hy] at h1
    exact h1.mono fun e w'' ⟨⟨a1, a2, a3, a4, a5, a6, a7⟩, he, m, b1⟩ => by
      obtain rfl : mo = a2 := hmo.symm.trans m.mem.len
      obtain rfl : no = a5 := hno.symm.trans m.seats.len2
      exact ⟨⟨a1, a3, a4, a6, a7⟩, he, m, b1⟩
  clear hzo hlo hso hy hsl HI64
  go_wp2_with (refine wpList_load_row rfl 27 _ rfl (w.heap.size) rfl 27 _ (0, 0) _ Q1.out Tryz.underlying27 rfl (by kernel_rfl) ?_)
  refine (cT.out _ ((E.out.below K1.out).mono K1.out.size)).mono ?_
  rintro e w2 ⟨⟨tM, tc, tA, tk, th⟩, rfl, hct, hb⟩
  have hlT : ∀ t, Tx.FootI (Tx.InnT.inn ⟨tM, tc, tA, tk, th⟩ nm n) t → w1.heap.size ≤ t ∧ t < w2.heap.size := fun t e => hct.foot e
  have hsz2 := hb.size
  have Q2 := Lib.hid (Tx.blk_on hb Q1.out)
  have K2 := Lib.hid (K1.out.trans (hb.mono K1.out.size))
  clear hb Q1 K1
  have T2 := Lib.hid hct
  clear hct
  go_wp2_with fail
  refine (cS.out _ _ ⟨tM, tc, tA, tk, th⟩ T2.out).mono ?_
  rintro e w3 ⟨⟨pM, pc, pA, pk, ph⟩, rfl, hcp, hb⟩
  have hlP : ∀ t, Tx.FootI (Tx.InnT.inn ⟨pM, pc, pA, pk, ph⟩ mo no) t → w2.heap.size ≤ t ∧ t < w3.heap.size := fun t e => hcp.foot e
  have hsz3 := hb.size
  have Q3 := Lib.hid (Tx.blk_on hb Q2.out)
  have T3 := Lib.hid (T2.out.on hb)
  have K3 := Lib.hid (K2.out.trans (hb.mono K2.out.size))
  clear hb Q2 K2 T2
  have P3 := Lib.hid hcp
  clear hcp
  obtain ⟨V4, hV4⟩ : ∃ V, w3.alloc (.cells #[.slice none 0 0, .int .i64 0, .slice none 0 0] 32) = V := ⟨_, rfl⟩
  have ltV4Q : w.heap.size < w3.heap.size := Tx.blk_in Q3.out
  have Q4 : Hid (V4.heap[w.heap.size]? = some (.cells #[.slice M nm cm, .int .i64 s, .slice A n cap] 27)) := by rw [← hV4]; exact Tx.alloc_blk Q3.out
  have hb : Below w3.heap.size w3 V4 := by rw [← hV4]; exact (Below.refl _ w3).alloc (Nat.le_refl _) _
  have T4 := Lib.hid (T3.out.on hb)
  have P4 := Lib.hid (P3.out.on hb)
  have K4 := Lib.hid (K3.out.trans (hb.mono K3.out.size))
  have GW4 : Hid (V4.heap[w3.heap.size]? = some (.cells #[.slice none 0 0, .int .i64 0, .slice none 0 0] 32)) := by rw [← hV4]; exact Tx.heap1 w3 _
  have lbV4 : w.heap.size ≤ w3.heap.size := K3.out.size
  clear hb Q3 K3 T3 P3
  have zaV4 : V4.heap.size = w3.heap.size + 1 := by rw [← hV4]; simp
  have Q5 : Hid ((V4.setRow w3.heap.size #[.slice pM mo pc, .int .i64 so, .slice pA no pk]).heap[w.heap.size]? = some (.cells #[.slice M nm cm, .int .i64 s, .slice A n cap] 27)) := (setRow_other _ _ _ _ (by omega)).trans Q4.out
  have GW5 : Hid ((V4.setRow w3.heap.size #[.slice pM mo pc, .int .i64 so, .slice pA no pk]).heap[w3.heap.size]? = some (.cells #[.slice pM mo pc, .int .i64 so, .slice pA no pk] 32)) := setRow_heap _ _ _ _ _ _ GW4.out
  have K5 : Hid (Below w.heap.size w (V4.setRow w3.heap.size #[.slice pM mo pc, .int .i64 so, .slice pA no pk])) := below_setRow K4.out (by omega) _
  have T5 : Hid (Tx.HeldI (V4.setRow w3.heap.size #[.slice pM mo pc, .int .i64 so, .slice pA no pk]) w1.heap.size (Tx.InnT.inn ⟨tM, tc, tA, tk, th⟩ nm n) zs ss) := T4.out.heap (fun t e => setRow_other _ _ _ _ (by have := hlT t e; omega)) (Nat.le_of_eq (size_setRow _ _ _).symm)
  have P5 : Hid (Tx.HeldI (V4.setRow w3.heap.size #[.slice pM mo pc, .int .i64 so, .slice pA no pk]) w2.heap.size (Tx.InnT.inn ⟨pM, pc, pA, pk, ph⟩ mo no) zo lo) := P4.out.heap (fun t e => setRow_other _ _ _ _ (by have := hlP t e; omega)) (Nat.le_of_eq (size_setRow _ _ _).symm)
  clear T4 P4
  have zz5 := size_setRow V4 (w3.heap.size) #[.slice pM mo pc, .int .i64 so, .slice pA no pk]
  go_wp2_with (first | (refine wpList_store_row rfl 32 _ _ rfl (w3.heap.size) #[.slice pM mo pc, .int .i64 so, .slice pA no pk] rfl rfl 32 _ GW4.out (by kernel_rfl) rfl (by simp [Value.oneCell']) ?_) | (refine wpList_load_row rfl 27 _ rfl (w.heap.size) rfl 27 _ (0, 0) _ Q5.out Tryz.underlying27 rfl (by kernel_rfl) ?_))
  clear hV4 Q4 GW4 K4
  generalize V4.setRow w3.heap.size #[.slice pM mo pc, .int .i64 so, .slice pA no pk] = S5 at Q5 GW5 T5 P5 K5 zz5 ⊢
  clear T5 hlT
  refine (cT.out _ ((E.out.below K5.out).mono K5.out.size)).mono ?_
  rintro e w6 ⟨⟨zM, zc, zA, zk, zh⟩, rfl, hcz, hb⟩
  have hlZ : ∀ t, Tx.FootI (Tx.InnT.inn ⟨zM, zc, zA, zk, zh⟩ nm n) t → S5.heap.size ≤ t ∧ t < w6.heap.size := fun t e => hcz.foot e
  have hsz4 := hb.size
  have Q6 := Lib.hid (Tx.blk_on hb Q5.out)
  have GW6 := Lib.hid (Tx.blk_on hb GW5.out)
  have P6 := Lib.hid (P5.out.on hb)
  have K6 := Lib.hid (K5.out.trans (hb.mono K5.out.size))
  clear hb Q5 GW5 K5 P5
  have Z6 := Lib.hid hcz
  clear hcz
  obtain ⟨V7, hV7⟩ : ∃ V, w6.alloc (.cells #[.slice none 0 0, .int .i64 0, .slice none 0 0] 32) = V := ⟨_, rfl⟩
  have ltV7Q : w.heap.size < w6.heap.size := Tx.blk_in Q6.out
  have ltV7GW : w3.heap.size < w6.heap.size := Tx.blk_in GW6.out
  have Q7 : Hid (V7.heap[w.heap.size]? = some (.cells #[.slice M nm cm, .int .i64 s, .slice A n cap] 27)) := by rw [← hV7]; exact Tx.alloc_blk Q6.out
  have GW7 : Hid (V7.heap[w3.heap.size]? = some (.cells #[.slice pM mo pc, .int .i64 so, .slice pA no pk] 32)) := by rw [← hV7]; exact Tx.alloc_blk GW6.out
  have hb : Below w6.heap.size w6 V7 := by rw [← hV7]; exact (Below.refl _ w6).alloc (Nat.le_refl _) _
  have P7 := Lib.hid (P6.out.on hb)
  have Z7 := Lib.hid (Z6.out.on hb)
  have K7 := Lib.hid (K6.out.trans (hb.mono K6.out.size))
  have XB7 : Hid (V7.heap[w6.heap.size]? = some (.cells #[.slice none 0 0, .int .i64 0, .slice none 0 0] 32)) := by rw [← hV7]; exact Tx.heap1 w6 _
  have lbV7 : w.heap.size ≤ w6.heap.size := K6.out.size
  clear hb Q6 GW6 K6 P6 Z6
  have zaV7 : V7.heap.size = w6.heap.size + 1 := by rw [← hV7]; simp
  have Q8 : Hid ((V7.setRow w6.heap.size #[.slice zM nm zc, .int .i64 s, .slice zA n zk]).heap[w.heap.size]? = some (.cells #[.slice M nm cm, .int .i64 s, .slice A n cap] 27)) := (setRow_other _ _ _ _ (by omega)).trans Q7.out
  have GW8 : Hid ((V7.setRow w6.heap.size #[.slice zM nm zc, .int .i64 s, .slice zA n zk]).heap[w3.heap.size]? = some (.cells #[.slice pM mo pc, .int .i64 so, .slice pA no pk] 32)) := (setRow_other _ _ _ _ (by omega)).trans GW7.out
  have XB8 : Hid ((V7.setRow w6.heap.size #[.slice zM nm zc, .int .i64 s, .slice zA n zk]).heap[w6.heap.size]? = some (.cells #[.slice zM nm zc, .int .i64 s, .slice zA n zk] 32)) := setRow_heap _ _ _ _ _ _ XB7.out
  have K8 : Hid (Below w.heap.size w (V7.setRow w6.heap.size #[.slice zM nm zc, .int .i64 s, .slice zA n zk])) := below_setRow K7.out (by omega) _
  have P8 : Hid (Tx.HeldI (V7.setRow w6.heap.size #[.slice zM nm zc, .int .i64 s, .slice zA n zk]) w2.heap.size (Tx.InnT.inn ⟨pM, pc, pA, pk, ph⟩ mo no) zo lo) := P7.out.heap (fun t e => setRow_other _ _ _ _ (by have := hlP t e; omega)) (Nat.le_of_eq (size_setRow _ _ _).symm)
  have Z8 : Hid (Tx.HeldI (V7.setRow w6.heap.size #[.slice zM nm zc, .int .i64 s, .slice zA n zk]) S5.heap.size (Tx.InnT.inn ⟨zM, zc, zA, zk, zh⟩ nm n) zs ss) := Z7.out.heap (fun t e => setRow_other _ _ _ _ (by have := hlZ t e; omega)) (Nat.le_of_eq (size_setRow _ _ _).symm)
  clear P7 Z7
  have zz8 := size_setRow V7 (w6.heap.size) #[.slice zM nm zc, .int .i64 s, .slice zA n zk]
  go_wp2_with (first | (refine wpList_store_row rfl 32 _ _ rfl (w6.heap.size) #[.slice zM nm zc, .int .i64 s, .slice zA n zk] rfl rfl 32 _ XB7.out (by kernel_rfl) rfl (by simp [Value.oneCell']) ?_) | (refine wpList_load_row rfl 32 _ rfl (w6.heap.size) rfl 32 _ (0, 0) _ XB8.out Tryz.underlying32 rfl (by kernel_rfl) ?_))
  clear hV7 Q7 GW7 XB7 K7
  generalize V7.setRow w6.heap.size #[.slice zM nm zc, .int .i64 s, .slice zA n zk] = S8 at Q8 GW8 XB8 P8 Z8 K8 zz8 ⊢
  refine (cI.out _ _ ⟨zM, zc, zA, zk, zh⟩ Z8.out).mono ?_
  rintro e w9 ⟨⟨oM, oc, oA, ok, oh⟩, rfl, hco, hb⟩
  have hlO : ∀ t, Tx.FootI (Tx.InnT.inn ⟨oM, oc, oA, ok, oh⟩ mo no) t → S8.heap.size ≤ t ∧ t < w9.heap.size := fun t e => hco.foot e
  have hsz5 := hb.size
  have Q9 := Lib.hid (Tx.blk_on hb Q8.out)
  have GW9 := Lib.hid (Tx.blk_on hb GW8.out)
  have XB9 := Lib.hid (Tx.blk_on hb XB8.out)
  have P9 := Lib.hid (P8.out.on hb)
  have Z9 := Lib.hid (Z8.out.on hb)
  have K9 := Lib.hid (K8.out.trans (hb.mono K8.out.size))
  clear hb Q8 GW8 XB8 K8 P8 Z8
  have O9 := Lib.hid hco
  clear hco
  obtain ⟨V10, hV10⟩ : ∃ V, w9.alloc (.cells #[.slice none 0 0, .int .i64 0, .slice none 0 0] 32) = V := ⟨_, rfl⟩
  have ltV10Q : w.heap.size < w9.heap.size := Tx.blk_in Q9.out
  have ltV10GW : w3.heap.size < w9.heap.size := Tx.blk_in GW9.out
  have ltV10XB : w6.heap.size < w9.heap.size := Tx.blk_in XB9.out
  have Q10 : Hid (V10.heap[w.heap.size]? = some (.cells #[.slice M nm cm, .int .i64 s, .slice A n cap] 27)) := by rw [← hV10]; exact Tx.alloc_blk Q9.out
  have GW10 : Hid (V10.heap[w3.heap.size]? = some (.cells #[.slice pM mo pc, .int .i64 so, .slice pA no pk] 32)) := by rw [← hV10]; exact Tx.alloc_blk GW9.out
  have XB10 : Hid (V10.heap[w6.heap.size]? = some (.cells #[.slice zM nm zc, .int .i64 s, .slice zA n zk] 32)) := by rw [← hV10]; exact Tx.alloc_blk XB9.out
  have hb : Below w9.heap.size w9 V10 := by rw [← hV10]; exact (Below.refl _ w9).alloc (Nat.le_refl _) _
  have P10 := Lib.hid (P9.out.on hb)
  have Z10 := Lib.hid (Z9.out.on hb)
  have O10 := Lib.hid (O9.out.on hb)
  have K10 := Lib.hid (K9.out.trans (hb.mono K9.out.size))
  have GG10 : Hid (V10.heap[w9.heap.size]? = some (.cells #[.slice none 0 0, .int .i64 0, .slice none 0 0] 32)) := by rw [← hV10]; exact Tx.heap1 w9 _
  have lbV10 : w.heap.size ≤ w9.heap.size := K9.out.size
  clear hb Q9 GW9 XB9 K9 P9 Z9 O9
  have zaV10 : V10.heap.size = w9.heap.size + 1 := by rw [← hV10]; simp
  have Q11 : Hid ((V10.setRow w9.heap.size #[.slice oM mo oc, .int .i64 so, .slice oA no ok]).heap[w.heap.size]? = some (.cells #[.slice M nm cm, .int .i64 s, .slice A n cap] 27)) := (setRow_other _ _ _ _ (by omega)).trans Q10.out
  have GW11 : Hid ((V10.setRow w9.heap.size #[.slice oM mo oc, .int .i64 so, .slice oA no ok]).heap[w3.heap.size]? = some (.cells #[.slice pM mo pc, .int .i64 so, .slice pA no pk] 32)) := (setRow_other _ _ _ _ (by omega)).trans GW10.out
  have XB11 : Hid ((V10.setRow w9.heap.size #[.slice oM mo oc, .int .i64 so, .slice oA no ok]).heap[w6.heap.size]? = some (.cells #[.slice zM nm zc, .int .i64 s, .slice zA n zk] 32)) := (setRow_other _ _ _ _ (by omega)).trans XB10.out
  have GG11 : Hid ((V10.setRow w9.heap.size #[.slice oM mo oc, .int .i64 so, .slice oA no ok]).heap[w9.heap.size]? = some (.cells #[.slice oM mo oc, .int .i64 so, .slice oA no ok] 32)) := setRow_heap _ _ _ _ _ _ GG10.out
  have K11 : Hid (Below w.heap.size w (V10.setRow w9.heap.size #[.slice oM mo oc, .int .i64 so, .slice oA no ok])) := below_setRow K10.out (by omega) _
  have P11 : Hid (Tx.HeldI (V10.setRow w9.heap.size #[.slice oM mo oc, .int .i64 so, .slice oA no ok]) w2.heap.size (Tx.InnT.inn ⟨pM, pc, pA, pk, ph⟩ mo no) zo lo) := P10.out.heap (fun t e => setRow_other _ _ _ _ (by have := hlP t e; omega)) (Nat.le_of_eq (size_setRow _ _ _).symm)
  have Z11 : Hid (Tx.HeldI (V10.setRow w9.heap.size #[.slice oM mo oc, .int .i64 so, .slice oA no ok]) S5.heap.size (Tx.InnT.inn ⟨zM, zc, zA, zk, zh⟩ nm n) zs ss) := Z10.out.heap (fun t e => setRow_other _ _ _ _ (by have := hlZ t e; omega)) (Nat.le_of_eq (size_setRow _ _ _).symm)
  have O11 : Hid (Tx.HeldI (V10.setRow w9.heap.size #[.slice oM mo oc, .int .i64 so, .slice oA no ok]) S8.heap.size (Tx.InnT.inn ⟨oM, oc, oA, ok, oh⟩ mo no) zo lo) := O10.out.heap (fun t e => setRow_other _ _ _ _ (by have := hlO t e; omega)) (Nat.le_of_eq (size_setRow _ _ _).symm)
  clear P10 Z10 O10
  have zz11 := size_setRow V10 (w9.heap.size) #[.slice oM mo oc, .int .i64 so, .slice oA no ok]
  go_wp2_with (first | (refine wpList_store_row rfl 32 _ _ rfl (w9.heap.size) #[.slice oM mo oc, .int .i64 so, .slice oA no ok] rfl rfl 32 _ GG10.out (by kernel_rfl) rfl (by simp [Value.oneCell']) ?_) | (refine wpList_load_row rfl 32 _ rfl (w9.heap.size) rfl 32 _ (0, 0) _ GG11.out Tryz.underlying32 rfl (by kernel_rfl) ?_) | (refine wpList_load_row rfl 32 _ rfl (w3.heap.size) rfl 32 _ (0, 0) _ GW11.out Tryz.underlying32 rfl (by kernel_rfl) ?_))
  clear hV10 Q10 GW10 XB10 GG10 K10
  generalize V10.setRow w9.heap.size #[.slice oM mo oc, .int .i64 so, .slice oA no ok] = S11 at Q11 GW11 XB11 GG11 P11 Z11 O11 K11 zz11 ⊢
  refine (Tx.eqInn_same oM pM mo oc pc zo so oA pA no ok pk lo _ O11.out.reads P11.out.reads hmo2 hno2 HLO.out).mono ?_
  rintro e w12 ⟨rfl, hb⟩
  have hsz6 := hb.size
  have Q12 := Lib.hid (Tx.blk_on hb Q11.out)
  have GW12 := Lib.hid (Tx.blk_on hb GW11.out)
  have XB12 := Lib.hid (Tx.blk_on hb XB11.out)
  have GG12 := Lib.hid (Tx.blk_on hb GG11.out)
  have P12 := Lib.hid (P11.out.on hb)
  have Z12 := Lib.hid (Z11.out.on hb)
  have O12 := Lib.hid (O11.out.on hb)
  have K12 := Lib.hid (K11.out.trans (hb.mono K11.out.size))
  clear hb Q11 GW11 XB11 GG11 K11 P11 Z11 O11
  go_wp2
  refine Tx.wp_region_own (W := w12) [] (fun _ => True) Tx.stays_true trivial [0, 0, 1, 1, 0] (by kernel_rfl) (by kernel_rfl) (by kernel_rfl) ?_
  have rXB : Hid (∀ q : Tx.In (Tx.plainEnv w12 []), q.w.heap[w6.heap.size]? = some (.cells #[.slice zM nm zc, .int .i64 s, .slice zA n zk] 32)) := fun q => q.block XB12.out (by simp)
  have rQ : Hid (∀ q : Tx.In (Tx.plainEnv w12 []), q.w.heap[w.heap.size]? = some (.cells #[.slice M nm cm, .int .i64 s, .slice A n cap] 27)) := fun q => q.block Q12.out (by simp)
  refine Tx.wpO_load_row rfl 32 _ rfl (w6.heap.size) rfl 32 _ (0, 0) _ rXB.out Tryz.underlying32 rfl (by kernel_rfl) ?_
  simp only [Act.put, List.setIfInBounds_toArray, List.set_cons_succ, List.set_cons_zero]
  refine Tx.wpO_load_row rfl 27 _ rfl (w.heap.size) rfl 27 _ (0, 0) _ rQ.out Tryz.underlying27 rfl (by kernel_rfl) ?_
  simp only [Act.put, List.setIfInBounds_toArray, List.set_cons_succ, List.set_cons_zero]
  refine Tx.wpO_callx (f := 6) (args := #[.agg #[.slice M nm cm, .int .i64 s, .slice A n cap]]) (α := Tx.InnT) (fun z => .agg #[.slice z.MA nm z.mc, .int .i64 s, .slice z.A n z.c]) (fun z => z.own) (fun z w' => Tx.HeldI w' w12.heap.size (z.inn nm n) zs ss) rfl (fun w' => by simp [go_sem]) (fun z w1 w2 hw h b => h.on b) (fun G => ⟨.nil, fun k hk => by cases hk⟩) (fun w' hw hF => ?_) (fun y hgy => ?_)
  · have kb := Tx.kept_below hw
    have kk := kb.size
    exact (cT.out w' ((E.out.below (K12.out.trans (kb.mono K12.out.size))).mono (Nat.le_trans K12.out.size kb.size))).mono fun e w'' ⟨z, he, m, b1⟩ => ⟨z, he, m.mono kb.size, b1, fun k hk => m.foot (Tx.InnT.foot.1 hk)⟩
  obtain ⟨yM, yc, yA, yk, yh⟩ := y
  dsimp only
  simp only [Act.put, List.setIfInBounds_toArray, List.set_cons_succ, List.set_cons_zero]
  refine Tx.wpO_call (f := 8) (args := #[.agg #[.slice zM nm zc, .int .i64 s, .slice zA n zk], .agg #[.slice yM nm yc, .int .i64 s, .slice yA n yk]]) (.bool true) rfl (fun w' => by simp [go_sem]) (fun w' hC hF => Tx.eqInn_same _ _ nm _ _ zs s _ _ n _ _ ss w' (Z12.out.on (Tx.kept_below hC)).reads hF.2.reads hnm hn HLL.out) ?_
  simp only [Act.put, List.setIfInBounds_toArray, List.set_cons_succ, List.set_cons_zero]
  refine Tx.wpO_quiet 1 rfl (by kernel_rfl) ?_
  simp only [List.take, List.drop]
  repeat (go_big_quiet_step (fail))
  refine wpQuiet_nil ?_
  clear hgy
  refine Tx.wpO_nil ?_
  rintro w13 hb' _
  have hb := Tx.kept_below hb'
  have hsz7 := hb.size
  have Q13 := Lib.hid (Tx.blk_on hb Q12.out)
  have GW13 := Lib.hid (Tx.blk_on hb GW12.out)
  have XB13 := Lib.hid (Tx.blk_on hb XB12.out)
  have GG13 := Lib.hid (Tx.blk_on hb GG12.out)
  have P13 := Lib.hid (P12.out.on hb)
  have Z13 := Lib.hid (Z12.out.on hb)
  have O13 := Lib.hid (O12.out.on hb)
  have K13 := Lib.hid (K12.out.trans (hb.mono K12.out.size))
  clear rXB rQ hb hb' Q12 GW12 XB12 GG12 K12 P12 Z12 O12
  go_wp2_with (refine wpList_load_row rfl 32 _ rfl (w6.heap.size) rfl 32 _ (0, 0) _ XB13.out Tryz.underlying32 rfl (by kernel_rfl) ?_)
  have hxs := Z13.out.seats.small HLL.out
  have cm := Tx.markInn_held zM nm zc zs s zA n zk 1 _ zh ss _ Z13.out (by omega) (by omega) hnm hn hxs
  refine cm.mono ?_
  rintro e wm ⟨rfl, hF, gr⟩
  have hsg := gr.size
  clear hF cm hxs
  clear Z13
  have Q14 : Hid (wm.heap[w.heap.size]? = some (.cells #[.slice M nm cm, .int .i64 s, .slice A n cap] 27)) := (gr.block _ (Tx.blk_in Q13.out) (fun e => by have := hlZ _ e; omega)).trans Q13.out
  have GW14 : Hid (wm.heap[w3.heap.size]? = some (.cells #[.slice pM mo pc, .int .i64 so, .slice pA no pk] 32)) := (gr.block _ (Tx.blk_in GW13.out) (fun e => by have := hlZ _ e; omega)).trans GW13.out
  have XB14 : Hid (wm.heap[w6.heap.size]? = some (.cells #[.slice zM nm zc, .int .i64 s, .slice zA n zk] 32)) := (gr.block _ (Tx.blk_in XB13.out) (fun e => by have := hlZ _ e; omega)).trans XB13.out
  have GG14 : Hid (wm.heap[w9.heap.size]? = some (.cells #[.slice oM mo oc, .int .i64 so, .slice oA no ok] 32)) := (gr.block _ (Tx.blk_in GG13.out) (fun e => by have := hlZ _ e; omega)).trans GG13.out
  have P14 : Hid (Tx.HeldI wm w2.heap.size (Tx.InnT.inn ⟨pM, pc, pA, pk, ph⟩ mo no) zo lo) := P13.out.heap (fun t e => gr.block _ (by have := hlP t e; omega) (fun e2 => by have h1 := hlP t e; have h2 := hlZ t e2; omega)) gr.size
  have O14 : Hid (Tx.HeldI wm S8.heap.size (Tx.InnT.inn ⟨oM, oc, oA, ok, oh⟩ mo no) zo lo) := O13.out.heap (fun t e => gr.block _ (by have := hlO t e; omega) (fun e2 => by have h1 := hlO t e; have h2 := hlZ t e2; omega)) gr.size
  have K14 : Hid (Below w.heap.size w wm) := gr.below K13.out K13.out.size (fun j e => by have := hlZ j e; omega)
  clear Q13 GW13 XB13 GG13 P13 O13 K13
  clear gr
  obtain ⟨m1, hm1⟩ : ∃ m, 1 + nm + Tx.marksN zh = m := ⟨_, rfl⟩
  rw [hm1]
  have hm0 : ¬ (m1 : Int) < 0 := by omega
  clear hm1
  go_wp2_with (first | (refine Tx.wpList_load_wanted rfl 32 _ rfl (w9.heap.size) rfl 32 _ (0, 0) _ GG14.out Tryz.underlying32 rfl (by kernel_rfl) ?_) | (refine Tx.wpList_load_wanted rfl 32 _ rfl (w3.heap.size) rfl 32 _ (0, 0) _ GW14.out Tryz.underlying32 rfl (by kernel_rfl) ?_))
  refine (Tx.eqInn_same oM pM mo oc pc zo so oA pA no ok pk lo _ O14.out.reads P14.out.reads hmo2 hno2 HLO.out).mono ?_
  rintro e w21 ⟨rfl, hb⟩
  have hsz8 := hb.size
  have Q15 := Lib.hid (Tx.blk_on hb Q14.out)
  have GW15 := Lib.hid (Tx.blk_on hb GW14.out)
  have XB15 := Lib.hid (Tx.blk_on hb XB14.out)
  have GG15 := Lib.hid (Tx.blk_on hb GG14.out)
  have P15 := Lib.hid (P14.out.on hb)
  have O15 := Lib.hid (O14.out.on hb)
  have K15 := Lib.hid (K14.out.trans (hb.mono K14.out.size))
  clear hb Q14 GW14 XB14 GG14 K14 P14 O14
  go_wp2_with (refine wpList_load_row rfl 32 _ rfl (w9.heap.size) rfl 32 _ (0, 0) _ GG15.out Tryz.underlying32 rfl (by kernel_rfl) ?_)
  have hos : Hid (∀ x ∈ oh, x.n ≤ 1048576) := O15.out.seats.small HLO.out
  have hol := O15.out.seats.len
  refine (Tx.markInn_held oM mo oc zo so oA no ok 1 _ oh lo _ O15.out (by omega) (by omega) hmo2 hno2 hos.out).mono ?_
  rintro e wn ⟨rfl, hF, gr⟩
  have hsg2 := gr.size
  clear O15
  have Q16 : Hid (wn.heap[w.heap.size]? = some (.cells #[.slice M nm cm, .int .i64 s, .slice A n cap] 27)) := (gr.block _ (Tx.blk_in Q15.out) (fun e => by have := hlO _ e; omega)).trans Q15.out
  have GW16 : Hid (wn.heap[w3.heap.size]? = some (.cells #[.slice pM mo pc, .int .i64 so, .slice pA no pk] 32)) := (gr.block _ (Tx.blk_in GW15.out) (fun e => by have := hlO _ e; omega)).trans GW15.out
  have XB16 : Hid (wn.heap[w6.heap.size]? = some (.cells #[.slice zM nm zc, .int .i64 s, .slice zA n zk] 32)) := (gr.block _ (Tx.blk_in XB15.out) (fun e => by have := hlO _ e; omega)).trans XB15.out
  have GG16 : Hid (wn.heap[w9.heap.size]? = some (.cells #[.slice oM mo oc, .int .i64 so, .slice oA no ok] 32)) := (gr.block _ (Tx.blk_in GG15.out) (fun e => by have := hlO _ e; omega)).trans GG15.out
  have P16 : Hid (Tx.HeldI wn w2.heap.size (Tx.InnT.inn ⟨pM, pc, pA, pk, ph⟩ mo no) zo lo) := P15.out.heap (fun t e => gr.block _ (by have := hlP t e; omega) (fun e2 => by have h1 := hlP t e; have h2 := hlO t e2; omega)) gr.size
  have K16 : Hid (Below w.heap.size w wn) := gr.below K15.out K15.out.size (fun j e => by have := hlO j e; omega)
  clear Q15 GW15 XB15 GG15 P15 K15
  have F16 := Lib.hid hF
  clear hF gr
  have hlF := hlO
  obtain ⟨m2, hm2⟩ : ∃ m, 1 + mo + Tx.marksN oh = m := ⟨_, rfl⟩
  rw [hm2]
  have hm3 : ¬ (m2 : Int) < 0 := by omega
  have hmm : ((m2 : Int) != (m2 : Int)) = false := by simp
  go_wp2_with (refine wpList_load_row rfl 32 _ rfl (w9.heap.size) rfl 32 _ (0, 0) _ GG16.out Tryz.underlying32 rfl (by kernel_rfl) ?_)
  have ch := Tx.heldInn_held oM mo oc so oA no ok 1 _ oh _ F16.out hol (by omega) (by omega) hmo2 hno2 hos.out
  rw [hm2] at ch
  refine (ch).mono ?_
  rintro e w31 ⟨rfl, hb⟩
  clear ch
  have hsz9 := hb.size
  have Q17 := Lib.hid (Tx.blk_on hb Q16.out)
  have GW17 := Lib.hid (Tx.blk_on hb GW16.out)
  have XB17 := Lib.hid (Tx.blk_on hb XB16.out)
  have GG17 := Lib.hid (Tx.blk_on hb GG16.out)
  have P17 := Lib.hid (P16.out.on hb)
  have F17 := Lib.hid (F16.out.on hb)
  have K17 := Lib.hid (K16.out.trans (hb.mono K16.out.size))
  clear hb Q16 GW16 XB16 GG16 K16 P16 F16
  go_wp2_with (refine wpList_load_row rfl 27 _ rfl (w.heap.size) rfl 27 _ (0, 0) _ Q17.out Tryz.underlying27 rfl (by kernel_rfl) ?_)
  refine (cT.out _ ((E.out.below K17.out).mono K17.out.size)).mono ?_
  rintro e w32 ⟨⟨uM, uc, uA, uk, uh⟩, rfl, hcu, hb⟩
  have hlU : ∀ t, Tx.FootI (Tx.InnT.inn ⟨uM, uc, uA, uk, uh⟩ nm n) t → w31.heap.size ≤ t ∧ t < w32.heap.size := fun t e => hcu.foot e
  have hsz10 := hb.size
  have Q18 := Lib.hid (Tx.blk_on hb Q17.out)
  have GW18 := Lib.hid (Tx.blk_on hb GW17.out)
  have XB18 := Lib.hid (Tx.blk_on hb XB17.out)
  have GG18 := Lib.hid (Tx.blk_on hb GG17.out)
  have P18 := Lib.hid (P17.out.on hb)
  have F18 := Lib.hid (F17.out.on hb)
  have K18 := Lib.hid (K17.out.trans (hb.mono K17.out.size))
  clear hb Q17 GW17 XB17 GG17 K17 P17 F17
  have U18 := Lib.hid hcu
  clear hcu
  go_wp2_with fail
  refine (cI.out _ _ ⟨uM, uc, uA, uk, uh⟩ U18.out).mono ?_
  rintro e w33 ⟨⟨jM, jc, jA, jk, jh⟩, rfl, hcj, hb⟩
  have hlJ : ∀ t, Tx.FootI (Tx.InnT.inn ⟨jM, jc, jA, jk, jh⟩ mo no) t → w32.heap.size ≤ t ∧ t < w33.heap.size := fun t e => hcj.foot e
  have hsz11 := hb.size
  have Q19 := Lib.hid (Tx.blk_on hb Q18.out)
  have GW19 := Lib.hid (Tx.blk_on hb GW18.out)
  have XB19 := Lib.hid (Tx.blk_on hb XB18.out)
  have GG19 := Lib.hid (Tx.blk_on hb GG18.out)
  have P19 := Lib.hid (P18.out.on hb)
  have F19 := Lib.hid (F18.out.on hb)
  have U19 := Lib.hid (U18.out.on hb)
  have K19 := Lib.hid (K18.out.trans (hb.mono K18.out.size))
  clear hb Q18 GW18 XB18 GG18 K18 P18 F18 U18
  have J19 := Lib.hid hcj
  clear hcj
  obtain ⟨V34, hV34⟩ : ∃ V, w33.alloc (.cells #[.slice none 0 0, .int .i64 0, .slice none 0 0] 32) = V := ⟨_, rfl⟩
  have ltV34Q : w.heap.size < w33.heap.size := Tx.blk_in Q19.out
  have ltV34GW : w3.heap.size < w33.heap.size := Tx.blk_in GW19.out
  have ltV34XB : w6.heap.size < w33.heap.size := Tx.blk_in XB19.out
  have ltV34GG : w9.heap.size < w33.heap.size := Tx.blk_in GG19.out
  have Q20 : Hid (V34.heap[w.heap.size]? = some (.cells #[.slice M nm cm, .int .i64 s, .slice A n cap] 27)) := by rw [← hV34]; exact Tx.alloc_blk Q19.out
  have GW20 : Hid (V34.heap[w3.heap.size]? = some (.cells #[.slice pM mo pc, .int .i64 so, .slice pA no pk] 32)) := by rw [← hV34]; exact Tx.alloc_blk GW19.out
  have XB20 : Hid (V34.heap[w6.heap.size]? = some (.cells #[.slice zM nm zc, .int .i64 s, .slice zA n zk] 32)) := by rw [← hV34]; exact Tx.alloc_blk XB19.out
  have GG20 : Hid (V34.heap[w9.heap.size]? = some (.cells #[.slice oM mo oc, .int .i64 so, .slice oA no ok] 32)) := by rw [← hV34]; exact Tx.alloc_blk GG19.out
  have hb : Below w33.heap.size w33 V34 := by rw [← hV34]; exact (Below.refl _ w33).alloc (Nat.le_refl _) _
  have P20 := Lib.hid (P19.out.on hb)
  have F20 := Lib.hid (F19.out.on hb)
  have U20 := Lib.hid (U19.out.on hb)
  have J20 := Lib.hid (J19.out.on hb)
  have K20 := Lib.hid (K19.out.trans (hb.mono K19.out.size))
  have GH20 : Hid (V34.heap[w33.heap.size]? = some (.cells #[.slice none 0 0, .int .i64 0, .slice none 0 0] 32)) := by rw [← hV34]; exact Tx.heap1 w33 _
  have lbV34 : w.heap.size ≤ w33.heap.size := K19.out.size
  clear hb Q19 GW19 XB19 GG19 K19 P19 F19 U19 J19
  have zaV34 : V34.heap.size = w33.heap.size + 1 := by rw [← hV34]; simp
  have Q21 : Hid ((V34.setRow w33.heap.size #[.slice jM mo jc, .int .i64 so, .slice jA no jk]).heap[w.heap.size]? = some (.cells #[.slice M nm cm, .int .i64 s, .slice A n cap] 27)) := (setRow_other _ _ _ _ (by omega)).trans Q20.out
  have GW21 : Hid ((V34.setRow w33.heap.size #[.slice jM mo jc, .int .i64 so, .slice jA no jk]).heap[w3.heap.size]? = some (.cells #[.slice pM mo pc, .int .i64 so, .slice pA no pk] 32)) := (setRow_other _ _ _ _ (by omega)).trans GW20.out
  have XB21 : Hid ((V34.setRow w33.heap.size #[.slice jM mo jc, .int .i64 so, .slice jA no jk]).heap[w6.heap.size]? = some (.cells #[.slice zM nm zc, .int .i64 s, .slice zA n zk] 32)) := (setRow_other _ _ _ _ (by omega)).trans XB20.out
  have GG21 : Hid ((V34.setRow w33.heap.size #[.slice jM mo jc, .int .i64 so, .slice jA no jk]).heap[w9.heap.size]? = some (.cells #[.slice oM mo oc, .int .i64 so, .slice oA no ok] 32)) := (setRow_other _ _ _ _ (by omega)).trans GG20.out
  have GH21 : Hid ((V34.setRow w33.heap.size #[.slice jM mo jc, .int .i64 so, .slice jA no jk]).heap[w33.heap.size]? = some (.cells #[.slice jM mo jc, .int .i64 so, .slice jA no jk] 32)) := setRow_heap _ _ _ _ _ _ GH20.out
  have K21 : Hid (Below w.heap.size w (V34.setRow w33.heap.size #[.slice jM mo jc, .int .i64 so, .slice jA no jk])) := below_setRow K20.out (by omega) _
  have P21 : Hid (Tx.HeldI (V34.setRow w33.heap.size #[.slice jM mo jc, .int .i64 so, .slice jA no jk]) w2.heap.size (Tx.InnT.inn ⟨pM, pc, pA, pk, ph⟩ mo no) zo lo) := P20.out.heap (fun t e => setRow_other _ _ _ _ (by have := hlP t e; omega)) (Nat.le_of_eq (size_setRow _ _ _).symm)
  have F21 : Hid (Tx.MarkedI (V34.setRow w33.heap.size #[.slice jM mo jc, .int .i64 so, .slice jA no jk]) S8.heap.size (Tx.InnT.inn ⟨oM, oc, oA, ok, oh⟩ mo no) 1) := F20.out.heap (fun t e => setRow_other _ _ _ _ (by have := hlF t e; omega)) (Nat.le_of_eq (size_setRow _ _ _).symm)
  have U21 : Hid (Tx.HeldI (V34.setRow w33.heap.size #[.slice jM mo jc, .int .i64 so, .slice jA no jk]) w31.heap.size (Tx.InnT.inn ⟨uM, uc, uA, uk, uh⟩ nm n) zs ss) := U20.out.heap (fun t e => setRow_other _ _ _ _ (by have := hlU t e; omega)) (Nat.le_of_eq (size_setRow _ _ _).symm)
  have J21 : Hid (Tx.HeldI (V34.setRow w33.heap.size #[.slice jM mo jc, .int .i64 so, .slice jA no jk]) w32.heap.size (Tx.InnT.inn ⟨jM, jc, jA, jk, jh⟩ mo no) zo lo) := J20.out.heap (fun t e => setRow_other _ _ _ _ (by have := hlJ t e; omega)) (Nat.le_of_eq (size_setRow _ _ _).symm)
  clear P20 F20 U20 J20
  have zz21 := size_setRow V34 (w33.heap.size) #[.slice jM mo jc, .int .i64 so, .slice jA no jk]
  go_wp2_with (first | (refine wpList_store_row rfl 32 _ _ rfl (w33.heap.size) #[.slice jM mo jc, .int .i64 so, .slice jA no jk] rfl rfl 32 _ GH20.out (by kernel_rfl) rfl (by simp [Value.oneCell']) ?_) | (refine wpList_load_row rfl 32 _ rfl (w33.heap.size) rfl 32 _ (0, 0) _ GH21.out Tryz.underlying32 rfl (by kernel_rfl) ?_) | (refine wpList_load_row rfl 32 _ rfl (w3.heap.size) rfl 32 _ (0, 0) _ GW21.out Tryz.underlying32 rfl (by kernel_rfl) ?_))
  clear hV34 Q20 GW20 XB20 GG20 GH20 K20
  generalize V34.setRow w33.heap.size #[.slice jM mo jc, .int .i64 so, .slice jA no jk] = S35 at Q21 GW21 XB21 GG21 GH21 P21 F21 U21 J21 K21 zz21 ⊢
  clear U21 hlU
  refine (Tx.eqInn_same jM pM mo jc pc zo so jA pA no jk pk lo _ J21.out.reads P21.out.reads hmo2 hno2 HLO.out).mono ?_
  rintro e w36 ⟨rfl, hb⟩
  have hsz12 := hb.size
  have Q22 := Lib.hid (Tx.blk_on hb Q21.out)
  have GW22 := Lib.hid (Tx.blk_on hb GW21.out)
  have XB22 := Lib.hid (Tx.blk_on hb XB21.out)
  have GG22 := Lib.hid (Tx.blk_on hb GG21.out)
  have GH22 := Lib.hid (Tx.blk_on hb GH21.out)
  have P22 := Lib.hid (P21.out.on hb)
  have F22 := Lib.hid (F21.out.on hb)
  have J22 := Lib.hid (J21.out.on hb)
  have K22 := Lib.hid (K21.out.trans (hb.mono K21.out.size))
  clear hb Q21 GW21 XB21 GG21 GH21 K21 P21 F21 J21
  go_wp2_with (refine wpList_load_row rfl 32 _ rfl (w9.heap.size) rfl 32 _ (0, 0) _ GG22.out Tryz.underlying32 rfl (by kernel_rfl) ?_)
  have ch := Tx.heldInn_held oM mo oc so oA no ok 1 _ oh _ F22.out hol (by omega) (by omega) hmo2 hno2 hos.out
  rw [hm2] at ch
  refine (ch).mono ?_
  rintro e w37 ⟨rfl, hb⟩
  clear ch
  have hsz13 := hb.size
  have Q23 := Lib.hid (Tx.blk_on hb Q22.out)
  have GW23 := Lib.hid (Tx.blk_on hb GW22.out)
  have XB23 := Lib.hid (Tx.blk_on hb XB22.out)
  have GG23 := Lib.hid (Tx.blk_on hb GG22.out)
  have GH23 := Lib.hid (Tx.blk_on hb GH22.out)
  have P23 := Lib.hid (P22.out.on hb)
  have F23 := Lib.hid (F22.out.on hb)
  have J23 := Lib.hid (J22.out.on hb)
  have K23 := Lib.hid (K22.out.trans (hb.mono K22.out.size))
  clear hb Q22 GW22 XB22 GG22 GH22 K22 P22 F22 J22
  go_wp2
  go_ret
  exact ⟨rfl, K23.out⟩

theorem own : ownKnob Tryz.prog.godebug = none := by kernel_rfl
theorem laidOut : laidOutB Tryz.prog = true := by kernel_rfl

set_option maxRecDepth 100000 in
theorem lifted (os : Os) (started : os.Started) (H : Type) (enc : TypeId × Value → H) :
    ReturnsInHanded {} Tryz.checked os 3 .any (Rows.fnExactFallenSpec.pre6 enc Tryz.prog Tryz.f3 Rows.fnExactFallenRow.domain false) (Rows.fnExactFallenSpec.post enc Tryz.prog Tryz.f3 false true false false) := by
  refine returnsInHanded_of_change (C := Tryz.checked) own started (by kernel_rfl) Tryz.func3
    (ChangeSpec.witness6 (enc := enc) (C := Tryz.checked) false ⟨#[], #[.agg #[.slice none 0 0, .int .i64 0, .slice none 0 0], .int .i64 0], []⟩ 8 (by kernel_rfl) (by kernel_rfl) (by kernel_rfl) (by kernel_rfl)) ?_
  intro W base args ds gs before hval0 hW hcnd _
  have hval : ∀ (j : Nat) t v, Tryz.f3.params[j]? = some t → args[j]? = some v → Value.okWide Tryz.prog W .any base t v := hval0
  have hW' := hW
  obtain ⟨p, q, hA0, hV, rfl, hfz, hnd⟩ := hW
  have hA : DataW.TrodAll enc Tryz.prog W 0 (fun _ => true) true Tryz.f3.params.toList args.toList ds p := hA0
  rw [Tryz.params3] at hA hval
  obtain ⟨v0, vs0, d0, ds0, p0, q0, hargs, rfl, rfl, h0, r0⟩ := trodAll_cons hA
  obtain ⟨v1, vs1, d1, ds1, p1, q1, rfl, rfl, rfl, h1, r1⟩ := trodAll_cons r0
  obtain ⟨rfl, rfl, rfl⟩ := trodAll_nil r1
  obtain rfl : args = #[v0, v1] := by cases args; simp_all
  obtain ⟨rfl, rfl⟩ := trodVars_none hV
  have k0 := h0
  have lt0 : ∀ x ∈ p0, x.block < W.heap.size := by obtain ⟨m, hm⟩ := k0; exact DataW.trod_lt m _ _ _ hm
  have k1 := h1
  have lt1 : ∀ x ∈ p1, x.block < W.heap.size := by obtain ⟨m, hm⟩ := k1; exact DataW.trod_lt m _ _ _ hm
  obtain ⟨M0, nm0, cm0, z0, s0, A0, n0, cp0, l0, rfl, w0⟩ := Tx.open_inn (hval 0 27 v0 rfl rfl) h0
  obtain ⟨a1, rfl, rfl, rfl, w1⟩ := open_int Tryz.underlying2 (hval 1 2 v1 rfl rfl) h1
  clear hA0 hval0
  refine (walk W M0 nm0 cm0 z0 s0 A0 n0 cp0 l0 w0.1 w0.2.1 w0.2.2.1 w0.2.2.2.1 w0.2.2.2.2 a1 w1).mono fun e W' ⟨he, bel⟩ => ?_
  subst he
  exact ⟨_, rfl, _, _, _, [], _, [], hW', trodAll_mk1 (shut_bool Tryz.underlying4 _), (trodAll_cons_mk (Below.trod laidOut (by kernel_rfl) (of_decide_eq_true (by kernel_rfl)) k0 bel lt0) (trodAll_cons_mk (Below.trod laidOut (by kernel_rfl) (of_decide_eq_true (by kernel_rfl)) k1 bel lt1) trodAll_mk0)), rfl, bel.frame _, fun h => by cases h⟩

theorem over : Rows.fnExactFallenRow.holds Tryz.pinned (OpenSpec.ofChange Rows.fnExactFallenSpec) :=
  OpenClaim.holds_of_wide 3 Tryz.f3 rfl rfl rfl rfl rfl rfl rfl ⟨rfl, rfl, rfl, rfl, rfl⟩ rfl rfl rfl rfl rfl (by kernel_rfl) Tryz.func3 (by kernel_rfl)
    (of_decide_eq_true (by kernel_rfl)) (by unfold Func.isWrapper; first | (rw [if_pos (by decide +kernel)]; kernel_rfl) | (rw [if_neg (by decide +kernel)]; exact ⟨rfl, rfl⟩))
    (fun os started H enc _ => lifted os started H enc)

end Go.Proofs.YtioogmeghmeelaaGreat.fnExactFallen

namespace Go.Proofs.YtioogmeghmeelaaGreat
theorem fnExactFallen_proved : Rows.FnExactFallenSaid := fnExactFallen.over
#print axioms fnExactFallen_proved
end Go.Proofs.YtioogmeghmeelaaGreat
