/-
  What Put and Take of the program answer. No conditions.
  What the small functions behind Hears of the program answer. Conditions: at most 1048576 words; the library's table of powers of ten holds what its text lays in it.
  What Hears of the program answers. Conditions: at most 1048576 words; the library's table of powers of ten holds what its text lays in it.
-/
import Derived.Test.YtioogmeghmeelaaGreatDoorImpl5a
import Derived.Test.YtioogmeghmeelaaGreatDoorRegionO
import Derived.Stop.Asserts
import Derived.Test.YtioogmeghmeelaaGreatDoorImpl14k
import Derived.Test.YtioogmeghmeelaaGreatDoorFmt
namespace Go.Proofs.YtioogmeghmeelaaGreatDoor.Tx
open Go.RowKit


set_option maxHeartbeats 4000000 in
theorem Take_impl (r : RowV) (b : BoxV) (w : World) : Calls Tryz.prog 164 #[r.val, b.val] w fun e w' => e = .returned (.tuple #[(takeR r b).val, .string (takeT r b), .bool (takeB r b)]) ∧ Below w.heap.size w w' := by
  obtain ⟨⟨u, s, h, a⟩, no⟩ := r
  obtain ⟨⟨xu, xs, xh, xa⟩, xn, xt, xp⟩ := b
  have HV : Hid (RowV.val ⟨⟨u, s, h, a⟩, no⟩ = .agg #[.int .i64 u, .int .i64 s, .int .i64 h, .int .i64 a, .int .i64 no]) := rfl
  have HV' : Hid (BoxV.val ⟨⟨xu, xs, xh, xa⟩, xn, xt, xp⟩ = .agg #[.int .i64 xu, .int .i64 xs, .int .i64 xh, .int .i64 xa, .int .i64 xn, .string xt, .bool xp]) := rfl
  rw [HV.out, HV'.out]
  go_enter Tryz.func164, Tryz.ntmps164
  go_wp2_with fail
  refine (keyed_any ⟨⟨u, s, h, a⟩, no⟩ _).mono ?_
  rintro e w1 ⟨rfl, hb⟩
  have K1 := Lib.hid (blk_on hb (heap3a w _ _ _))
  have X1 := Lib.hid (blk_on hb (heap3b w _ _ _))
  have R1 := Lib.hid (blk_on hb (heap3c w _ _ _))
  have L1 := Lib.hid (below_new3 hb)
  have s1 := blk_in R1.out
  clear hb
  rw [HV.out]
  go_wp2_with fail
  refine (rowRight_any ⟨⟨u, s, h, a⟩, no⟩ _).mono ?_
  rintro e w2 ⟨rfl, b2⟩
  have K2 := Lib.hid (blk_on b2 (alloc_blk K1.out))
  have X2 := Lib.hid (blk_on b2 (alloc_blk X1.out))
  have R2 := Lib.hid (blk_on b2 (alloc_blk R1.out))
  have Y2 := Lib.hid (blk_on b2 (heap1 w1 _))
  have L2 := Lib.hid ((L1.out.alloc L1.out.size _).trans (b2.mono (L1.out.alloc L1.out.size _).size))
  clear b2 K1 R1 X1 L1
  cases hr : rowOkB ⟨⟨u, s, h, a⟩, no⟩ with
  | false =>
    have HR : Hid (takeR ⟨⟨u, s, h, a⟩, no⟩ ⟨⟨xu, xs, xh, xa⟩, xn, xt, xp⟩ = .zero ∧ takeT ⟨⟨u, s, h, a⟩, no⟩ ⟨⟨xu, xs, xh, xa⟩, xn, xt, xp⟩ = ⟨#[]⟩ ∧ takeB ⟨⟨u, s, h, a⟩, no⟩ ⟨⟨xu, xs, xh, xa⟩, xn, xt, xp⟩ = false) := by
      have e : takeB ⟨⟨u, s, h, a⟩, no⟩ ⟨⟨xu, xs, xh, xa⟩, xn, xt, xp⟩ = false := by simp [takeB, hr]
      exact ⟨by simp [takeR, hr], by simp [takeT, e], e⟩
    clear hr
    obtain ⟨⟨a0, a1, a2, a3, a4⟩, q0, q1, q2, q3, q4⟩ := blk5 R2.out
    go_wp2
    refine row_ret3 (r := w.heap.size + 1 + 1) (cs := List.toArray RowV.zero.cells) rfl rfl rfl rfl (setAll_whole (w := w2) (vs := RowV.zero.cells) R2.out rfl) Tryz.underlying54 rfl (by kernel_rfl) rfl ⟨?_, setAll_below (w := w2) (by omega) RowV.zero.cells 0 L2.out⟩
    rw [HR.out.1, HR.out.2.1, HR.out.2.2]
    rfl
  | true =>
    obtain ⟨⟨d0, d1, d2, d3, d4⟩, _⟩ := blk5 Y2.out
    obtain ⟨⟨c0, c1, c2, c3, c4, c5, c6⟩, _⟩ := blk7 X2.out
    go_wp2_with fail
    clear d0 d1 d2 d3 d4 c0 c1 c2 c3 c4 c5 c6
    refine (open_any ⟨u, s, h, a⟩ ⟨⟨xu, xs, xh, xa⟩, xn, xt, xp⟩ no _).mono ?_
    rintro e w3 ⟨rfl, b3⟩
    replace K2 := Lib.hid (blk_on b3 K2.out)
    replace R2 := Lib.hid (blk_on b3 R2.out)
    replace Y2 := Lib.hid (blk_on b3 Y2.out)
    replace L2 := Lib.hid (L2.out.trans (b3.mono L2.out.size))
    clear b3 X2
    cases ho : openB ⟨⟨xu, xs, xh, xa⟩, xn, xt, xp⟩ ⟨u, s, h, a⟩ no with
    | false =>
      have HR : Hid (takeR ⟨⟨u, s, h, a⟩, no⟩ ⟨⟨xu, xs, xh, xa⟩, xn, xt, xp⟩ = ⟨⟨u, s, h, a⟩, no⟩ ∧ takeT ⟨⟨u, s, h, a⟩, no⟩ ⟨⟨xu, xs, xh, xa⟩, xn, xt, xp⟩ = ⟨#[]⟩ ∧ takeB ⟨⟨u, s, h, a⟩, no⟩ ⟨⟨xu, xs, xh, xa⟩, xn, xt, xp⟩ = false) := by
        have e : takeB ⟨⟨u, s, h, a⟩, no⟩ ⟨⟨xu, xs, xh, xa⟩, xn, xt, xp⟩ = false := by simp [takeB, ho]
        exact ⟨by simp [takeR, hr, e], by simp [takeT, e], e⟩
      rw [open_false ho]
      obtain ⟨⟨a0, a1, a2, a3, a4⟩, q0, q1, q2, q3, q4⟩ := blk5 R2.out
      obtain ⟨⟨d0, d1, d2, d3, d4⟩, _⟩ := blk5 K2.out
      go_wp2
      refine row_ret3 (r := w.heap.size + 1 + 1) (cs := List.toArray (RowV.cells ⟨⟨u, s, h, a⟩, no⟩)) rfl rfl rfl rfl (setAll_whole (w := w3) (vs := (RowV.cells ⟨⟨u, s, h, a⟩, no⟩)) R2.out rfl) Tryz.underlying54 rfl (by kernel_rfl) rfl ⟨?_, setAll_below (w := w3) (by omega) (RowV.cells ⟨⟨u, s, h, a⟩, no⟩) 0 L2.out⟩
      rw [HR.out.1, HR.out.2.1, HR.out.2.2]
      rfl
    | true =>
      rw [(open_true ho).2.2.2]
      obtain ⟨⟨d0, d1, d2, d3, d4⟩, _⟩ := blk5 Y2.out
      go_wp2_with fail
      clear d0 d1 d2 d3 d4
      refine (goesOn_any ⟨⟨u, s, h, a⟩, no⟩ _).mono ?_
      rintro e w4 ⟨rfl, b4⟩
      replace K2 := Lib.hid (blk_on b4 K2.out)
      replace R2 := Lib.hid (blk_on b4 R2.out)
      replace Y2 := Lib.hid (blk_on b4 Y2.out)
      replace L2 := Lib.hid (L2.out.trans (b4.mono L2.out.size))
      clear b4
      cases hg : goesB ⟨⟨u, s, h, a⟩, no⟩ with
      | false =>
        have HR : Hid (takeR ⟨⟨u, s, h, a⟩, no⟩ ⟨⟨xu, xs, xh, xa⟩, xn, xt, xp⟩ = ⟨⟨u, s, h, a⟩, no⟩ ∧ takeT ⟨⟨u, s, h, a⟩, no⟩ ⟨⟨xu, xs, xh, xa⟩, xn, xt, xp⟩ = ⟨#[]⟩ ∧ takeB ⟨⟨u, s, h, a⟩, no⟩ ⟨⟨xu, xs, xh, xa⟩, xn, xt, xp⟩ = false) := by
          have e : takeB ⟨⟨u, s, h, a⟩, no⟩ ⟨⟨xu, xs, xh, xa⟩, xn, xt, xp⟩ = false := by simp [takeB, hg]
          exact ⟨by simp [takeR, hr, e], by simp [takeT, e], e⟩
        obtain ⟨⟨a0, a1, a2, a3, a4⟩, q0, q1, q2, q3, q4⟩ := blk5 R2.out
        obtain ⟨⟨d0, d1, d2, d3, d4⟩, _⟩ := blk5 K2.out
        go_wp2
        refine row_ret3 (r := w.heap.size + 1 + 1) (cs := List.toArray (RowV.cells ⟨⟨u, s, h, a⟩, no⟩)) rfl rfl rfl rfl (setAll_whole (w := w4) (vs := (RowV.cells ⟨⟨u, s, h, a⟩, no⟩)) R2.out rfl) Tryz.underlying54 rfl (by kernel_rfl) rfl ⟨?_, setAll_below (w := w4) (by omega) (RowV.cells ⟨⟨u, s, h, a⟩, no⟩) 0 L2.out⟩
        rw [HR.out.1, HR.out.2.1, HR.out.2.2]
        rfl
      | true =>
        obtain ⟨hn0, hn1⟩ := goes_range hg hr
        dsimp only at hn0 hn1
        have HR : Hid (takeR ⟨⟨u, s, h, a⟩, no⟩ ⟨⟨xu, xs, xh, xa⟩, xn, xt, xp⟩ = ⟨⟨u, s, h, a⟩, no + 1⟩ ∧ takeT ⟨⟨u, s, h, a⟩, no⟩ ⟨⟨xu, xs, xh, xa⟩, xn, xt, xp⟩ = xt ∧ takeB ⟨⟨u, s, h, a⟩, no⟩ ⟨⟨xu, xs, xh, xa⟩, xn, xt, xp⟩ = true) := by
          have e : takeB ⟨⟨u, s, h, a⟩, no⟩ ⟨⟨xu, xs, xh, xa⟩, xn, xt, xp⟩ = true := by simp [takeB, hr, ho, hg]
          exact ⟨by simp [takeR, hr, e, RowV.on], by simp [takeT, e], e⟩
        obtain ⟨⟨d0, d1, d2, d3, d4⟩, _⟩ := blk5 Y2.out
        go_wp2_with fail
        clear d0 d1 d2 d3 d4
        refine (rowNext_any ⟨⟨u, s, h, a⟩, no⟩ hn0 hn1 _).mono ?_
        rintro e w5 ⟨rfl, b5⟩
        replace R2 := Lib.hid (blk_on b5 R2.out)
        replace L2 := Lib.hid (L2.out.trans (b5.mono L2.out.size))
        clear b5
        have HN : Hid (RowV.val (RowV.on ⟨⟨u, s, h, a⟩, no⟩) = .agg #[.int .i64 u, .int .i64 s, .int .i64 h, .int .i64 a, .int .i64 (no + 1)]) := rfl
        rw [HN.out]
        obtain ⟨⟨a0, a1, a2, a3, a4⟩, q0, q1, q2, q3, q4⟩ := blk5 R2.out
        go_wp2
        refine row_ret3 (r := w.heap.size + 1 + 1) (cs := List.toArray (RowV.cells ⟨⟨u, s, h, a⟩, no + 1⟩)) rfl rfl rfl rfl (setAll_whole (w := w5) (vs := (RowV.cells ⟨⟨u, s, h, a⟩, no + 1⟩)) R2.out rfl) Tryz.underlying54 rfl (by kernel_rfl) rfl ⟨?_, setAll_below (w := w5) (by omega) (RowV.cells ⟨⟨u, s, h, a⟩, no + 1⟩) 0 L2.out⟩
        rw [HR.out.1, HR.out.2.1, HR.out.2.2]
        rfl

end Go.Proofs.YtioogmeghmeelaaGreatDoor.Tx
namespace Go.Proofs.YtioogmeghmeelaaGreatDoor.Tx
open Go.RowKit

theorem asE (v : Value) (w : World) : (Instr.typeAssert (.iface 116 v) 92 152 true).run Tryz.prog w = .ok (.tuple #[.iface 116 v, .bool true]) w := by kernel_rfl
theorem asF (v : Value) (w : World) : (Instr.typeAssert (.iface 117 v) 92 152 true).run Tryz.prog w = .ok (.tuple #[.nilIface, .bool false]) w := run_typeAssert_lacksB Tryz.underlying152 (by kernel_rfl) (by kernel_rfl) v 92 w

set_option maxHeartbeats 4000000 in
theorem endBehind_any (n : Nat) (hn : n ≤ 1048576) (w : World) (ht : Tab w) : Calls Tryz.prog 103 #[.int .i64 (n : Int)] w fun e w' => e = .returned (.string (endT n)) ∧ Below w.heap.size w w' := by
  have cF := fmt_any (n : Int) ⟨by omega, by omega⟩ w ht
  have hs : (intT (n : Int)).size ≤ 19 := by rw [intT, if_neg (by omega)]; exact (decT_size (by omega)).2
  unfold endT
  generalize intT (n : Int) = tx at cF hs ⊢
  have h9 : ¬ 9223372036854775807 < 3 + tx.size := by omega
  clear ht hs
  go_enter Tryz.func103, Tryz.ntmps103
  go_wp2_with fail
  refine cF.mono ?_
  rintro e w1 ⟨rfl, hb⟩
  go_wp2
  go_ret
  exact ⟨rfl, hb⟩

set_option maxRecDepth 100000 in
set_option maxHeartbeats 16000000 in
theorem heardFirst_any (s : SeatV) (A : Option Addr) (n cap : Nat) (t : ByteArray) (hn : n ≤ 1048576) (w : World) (ht : Tab w) : Calls Tryz.prog 92 #[s.val A n cap, .string t] w fun e w' => e = .returned (.int .i64 (if isEnd t n then 2 else 0)) ∧ Below w.heap.size w w' := by
  obtain ⟨st, sh, sd, sp, ⟨⟨eu, es, eh, ea⟩, en⟩, ⟨⟨fu, fs, fh, fa⟩, fn⟩⟩ := s
  have HV : Hid (SeatV.val ⟨st, sh, sd, sp, ⟨⟨eu, es, eh, ea⟩, en⟩, ⟨⟨fu, fs, fh, fa⟩, fn⟩⟩ A n cap = .agg #[.int .i64 st, .int .i64 sh, .int .i64 sd, .int .i64 sp, .int .i64 eu, .int .i64 es, .int .i64 eh, .int .i64 ea, .int .i64 en, .int .i64 fu, .int .i64 fs, .int .i64 fh, .int .i64 fa, .int .i64 fn, .slice A n cap]) := rfl
  rw [HV.out]
  clear HV
  have HTB := Lib.hid ht
  have cE := Lib.hid fun (w' : World) hT => endBehind_any n hn w' hT
  unfold isEnd
  generalize endT n = tn at cE ⊢
  clear ht
  obtain ⟨y, hy⟩ : ∃ y : Int, (if t.toList == tn.toList then 2 else 0) = y := ⟨_, rfl⟩
  rw [hy]
  have HY := Lib.hid hy
  clear hy
  obtain ⟨W0, hW0⟩ : ∃ W, w.alloc (.cells #[.int .i64 st, .int .i64 sh, .int .i64 sd, .int .i64 sp, .int .i64 eu, .int .i64 es, .int .i64 eh, .int .i64 ea, .int .i64 en, .int .i64 fu, .int .i64 fs, .int .i64 fh, .int .i64 fa, .int .i64 fn, .slice A n cap] 57) = W := ⟨_, rfl⟩
  have K0 : Hid (Below w.heap.size w W0) := by rw [← hW0]; exact (Below.refl _ w).alloc (Nat.le_refl _) _
  have S0 : Hid (W0.heap[w.heap.size]? = some (.cells #[.int .i64 st, .int .i64 sh, .int .i64 sd, .int .i64 sp, .int .i64 eu, .int .i64 es, .int .i64 eh, .int .i64 ea, .int .i64 en, .int .i64 fu, .int .i64 fs, .int .i64 fh, .int .i64 fa, .int .i64 fn, .slice A n cap] 57)) := by rw [← hW0]; exact heap1 w _
  go_enter Tryz.func92, Tryz.ntmps92
  obtain ⟨⟨a0, a1, a2, a3, a4, a5, a6, a7, a8, a9, a10, a11, a12, a13, a14⟩, _⟩ := blk15 S0.out
  go_wp2_with fail
  clear a0 a1 a2 a3 a4 a5 a6 a7 a8 a9 a10 a11 a12 a13 a14
  clear hW0
  refine (cE.out _ (HTB.out.on K0.out)).mono ?_
  rintro e w1 ⟨rfl, hb⟩
  have S1 := Lib.hid (blk_on hb S0.out)
  have K1 := Lib.hid (K0.out.trans (hb.mono K0.out.size))
  clear hb S0 K0
  cases htx : t.toList == tn.toList
  ·
    have htx2 : (t.toList != tn.toList) = true := by rw [bne, htx]; rfl
    have HE : Hid (y = 0) := by show _ = _; rw [← HY.out, htx]; rfl
    go_wp2
    go_ret
    exact ⟨by rw [HE.out]; rfl, K1.out⟩
  ·
    have htx2 : (t.toList != tn.toList) = false := by rw [bne, htx]; rfl
    have HE : Hid (y = 2) := by show _ = _; rw [← HY.out, htx]; rfl
    go_wp2
    go_ret
    exact ⟨by rw [HE.out]; rfl, K1.out⟩

theorem rowEarly_any (r : RowV) (w : World) : Calls Tryz.prog 162 #[r.val] w fun e w' => e = .returned (.bool true) ∧ Below w.heap.size w w' := by
  obtain ⟨⟨ru, rs, rh, ra⟩, rn⟩ := r
  have HV : Hid (RowV.val ⟨⟨ru, rs, rh, ra⟩, rn⟩ = .agg #[.int .i64 ru, .int .i64 rs, .int .i64 rh, .int .i64 ra, .int .i64 rn]) := rfl
  rw [HV.out]
  have K0 : Hid (Below w.heap.size w (w.alloc (.cells #[.int .i64 ru, .int .i64 rs, .int .i64 rh, .int .i64 ra, .int .i64 rn] 116))) := (Below.refl _ w).alloc (Nat.le_refl _) _
  go_enter Tryz.func162, Tryz.ntmps162
  go_wp2
  go_ret
  exact ⟨rfl, K0.out⟩

set_option maxRecDepth 100000 in
set_option maxHeartbeats 16000000 in
theorem isEarlyRow_e (r : RowV) (w : World) : Calls Tryz.prog 91 #[.iface 116 r.val] w fun e w' => e = .returned (.bool true) ∧ Below w.heap.size w w' := by
  have as0 := asE r.val
  have cR := Lib.hid fun (w' : World) => rowEarly_any r w'
  generalize r.val = v at as0 cR ⊢
  go_enter Tryz.func91, Tryz.ntmps91
  go_wp2_with fail
  refine (cR.out _).mono ?_
  rintro e w1 ⟨rfl, hb⟩
  go_wp2
  go_ret
  exact ⟨rfl, hb⟩

set_option maxRecDepth 100000 in
set_option maxHeartbeats 16000000 in
theorem isEarlyRow_f (r : RowV) (w : World) : Calls Tryz.prog 91 #[.iface 117 r.val] w fun e w' => e = .returned (.bool false) ∧ Below w.heap.size w w' := by
  have as0 := asF r.val
  generalize r.val = v at as0 ⊢
  go_enter Tryz.func91, Tryz.ntmps91
  go_wp2
  go_ret
  exact ⟨rfl, Below.refl _ _⟩


set_option maxRecDepth 100000 in
set_option maxHeartbeats 16000000 in
theorem heardAs_e (s : SeatV) (A : Option Addr) (n cap : Nat) (r : RowV) (t : ByteArray) (_ : n ≤ 1048576) (w : World) : Calls Tryz.prog 73 #[s.val A n cap, .iface 116 r.val, .string t] w fun e w' => e = .returned (.int .i64 (if n = 60 then 0 else 1)) ∧ Below w.heap.size w w' := by
  have c0 := Lib.hid fun (w' : World) => isEarlyRow_e r w'
  generalize r.val = v at c0 ⊢
  obtain ⟨st, sh, sd, sp, ⟨⟨eu, es, eh, ea⟩, en⟩, ⟨⟨fu, fs, fh, fa⟩, fn⟩⟩ := s
  have HV : Hid (SeatV.val ⟨st, sh, sd, sp, ⟨⟨eu, es, eh, ea⟩, en⟩, ⟨⟨fu, fs, fh, fa⟩, fn⟩⟩ A n cap = .agg #[.int .i64 st, .int .i64 sh, .int .i64 sd, .int .i64 sp, .int .i64 eu, .int .i64 es, .int .i64 eh, .int .i64 ea, .int .i64 en, .int .i64 fu, .int .i64 fs, .int .i64 fh, .int .i64 fa, .int .i64 fn, .slice A n cap]) := rfl
  rw [HV.out]
  clear HV
  obtain ⟨y, hy⟩ : ∃ y : Int, (if n = 60 then 0 else 1) = y := ⟨_, rfl⟩
  rw [hy]
  have HY := Lib.hid hy
  clear hy
  obtain ⟨W0, hW0⟩ : ∃ W, w.alloc (.cells #[.int .i64 st, .int .i64 sh, .int .i64 sd, .int .i64 sp, .int .i64 eu, .int .i64 es, .int .i64 eh, .int .i64 ea, .int .i64 en, .int .i64 fu, .int .i64 fs, .int .i64 fh, .int .i64 fa, .int .i64 fn, .slice A n cap] 57) = W := ⟨_, rfl⟩
  have K0 : Hid (Below w.heap.size w W0) := by rw [← hW0]; exact (Below.refl _ w).alloc (Nat.le_refl _) _
  have S0 : Hid (W0.heap[w.heap.size]? = some (.cells #[.int .i64 st, .int .i64 sh, .int .i64 sd, .int .i64 sp, .int .i64 eu, .int .i64 es, .int .i64 eh, .int .i64 ea, .int .i64 en, .int .i64 fu, .int .i64 fs, .int .i64 fh, .int .i64 fa, .int .i64 fn, .slice A n cap] 57)) := by rw [← hW0]; exact heap1 w _
  go_enter Tryz.func73, Tryz.ntmps73
  go_wp2_with fail
  clear hW0
  refine (c0.out _).mono ?_
  rintro e w1 ⟨rfl, hb⟩
  have S1 := Lib.hid (blk_on hb S0.out)
  have K1 := Lib.hid (K0.out.trans (hb.mono K0.out.size))
  clear hb S0 K0
  by_cases hs : st = 1
  ·
    have hsq : (st == 1) = true := beq_int hs
    clear hs
    by_cases h60 : n = 60
    ·
      have h61 : ((n : Int) == 60) = true := beq_int (by omega)
      have HE : Hid (y = 0) := by show _ = _; rw [← HY.out, if_pos h60]
      clear h60
      obtain ⟨⟨a0, a1, a2, a3, a4, a5, a6, a7, a8, a9, a10, a11, a12, a13, a14⟩, _⟩ := blk15 S1.out
      go_wp2
      go_ret
      exact ⟨by rw [HE.out]; rfl, K1.out⟩
    ·
      have h61 : ((n : Int) == 60) = false := bne_int (by omega)
      have HE : Hid (y = 1) := by show _ = _; rw [← HY.out, if_neg h60]
      clear h60
      obtain ⟨⟨a0, a1, a2, a3, a4, a5, a6, a7, a8, a9, a10, a11, a12, a13, a14⟩, _⟩ := blk15 S1.out
      go_wp2
      go_ret
      exact ⟨by rw [HE.out]; rfl, K1.out⟩
  ·
    have hsq : (st == 1) = false := bne_int hs
    clear hs
    by_cases h60 : n = 60
    ·
      have h61 : ((n : Int) == 60) = true := beq_int (by omega)
      have HE : Hid (y = 0) := by show _ = _; rw [← HY.out, if_pos h60]
      clear h60
      obtain ⟨⟨a0, a1, a2, a3, a4, a5, a6, a7, a8, a9, a10, a11, a12, a13, a14⟩, _⟩ := blk15 S1.out
      go_wp2
      go_ret
      exact ⟨by rw [HE.out]; rfl, K1.out⟩
    ·
      have h61 : ((n : Int) == 60) = false := bne_int (by omega)
      have HE : Hid (y = 1) := by show _ = _; rw [← HY.out, if_neg h60]
      clear h60
      obtain ⟨⟨a0, a1, a2, a3, a4, a5, a6, a7, a8, a9, a10, a11, a12, a13, a14⟩, _⟩ := blk15 S1.out
      go_wp2
      go_ret
      exact ⟨by rw [HE.out]; rfl, K1.out⟩

set_option maxRecDepth 100000 in
set_option maxHeartbeats 16000000 in
theorem heardAs_f (s : SeatV) (A : Option Addr) (n cap : Nat) (r : RowV) (t : ByteArray) (hn : n ≤ 1048576) (w : World) (ht : Tab w) : Calls Tryz.prog 73 #[s.val A n cap, .iface 117 r.val, .string t] w fun e w' => e = .returned (.int .i64 (if s.st = 1 then (if isEnd t n then 2 else 0) else if n = 60 then 0 else 3)) ∧ Below w.heap.size w w' := by
  have c0 := Lib.hid fun (w' : World) => isEarlyRow_f r w'
  generalize r.val = v at c0 ⊢
  have HTB := Lib.hid ht
  have cX' := fun (w' : World) hT => heardFirst_any s A n cap t hn w' hT
  generalize (if isEnd t n then (2 : Int) else 0) = y2 at cX' ⊢
  clear ht
  obtain ⟨st, sh, sd, sp, ⟨⟨eu, es, eh, ea⟩, en⟩, ⟨⟨fu, fs, fh, fa⟩, fn⟩⟩ := s
  have HV : Hid (SeatV.val ⟨st, sh, sd, sp, ⟨⟨eu, es, eh, ea⟩, en⟩, ⟨⟨fu, fs, fh, fa⟩, fn⟩⟩ A n cap = .agg #[.int .i64 st, .int .i64 sh, .int .i64 sd, .int .i64 sp, .int .i64 eu, .int .i64 es, .int .i64 eh, .int .i64 ea, .int .i64 en, .int .i64 fu, .int .i64 fs, .int .i64 fh, .int .i64 fa, .int .i64 fn, .slice A n cap]) := rfl
  rw [HV.out]
  rw [HV.out] at cX'
  have cX := Lib.hid cX'
  clear cX'
  dsimp only
  clear HV
  obtain ⟨y, hy⟩ : ∃ y : Int, (if st = 1 then y2 else if n = 60 then 0 else 3) = y := ⟨_, rfl⟩
  rw [hy]
  have HY := Lib.hid hy
  clear hy
  obtain ⟨W0, hW0⟩ : ∃ W, w.alloc (.cells #[.int .i64 st, .int .i64 sh, .int .i64 sd, .int .i64 sp, .int .i64 eu, .int .i64 es, .int .i64 eh, .int .i64 ea, .int .i64 en, .int .i64 fu, .int .i64 fs, .int .i64 fh, .int .i64 fa, .int .i64 fn, .slice A n cap] 57) = W := ⟨_, rfl⟩
  have K0 : Hid (Below w.heap.size w W0) := by rw [← hW0]; exact (Below.refl _ w).alloc (Nat.le_refl _) _
  have S0 : Hid (W0.heap[w.heap.size]? = some (.cells #[.int .i64 st, .int .i64 sh, .int .i64 sd, .int .i64 sp, .int .i64 eu, .int .i64 es, .int .i64 eh, .int .i64 ea, .int .i64 en, .int .i64 fu, .int .i64 fs, .int .i64 fh, .int .i64 fa, .int .i64 fn, .slice A n cap] 57)) := by rw [← hW0]; exact heap1 w _
  go_enter Tryz.func73, Tryz.ntmps73
  go_wp2_with fail
  clear hW0
  refine (c0.out _).mono ?_
  rintro e w1 ⟨rfl, hb⟩
  have S1 := Lib.hid (blk_on hb S0.out)
  have K1 := Lib.hid (K0.out.trans (hb.mono K0.out.size))
  clear hb S0 K0
  by_cases hs : st = 1
  ·
    have hsq : (st == 1) = true := beq_int hs
    have HE : Hid (y = y2) := by show _ = _; rw [← HY.out, if_pos hs]
    clear hs
    obtain ⟨⟨a0, a1, a2, a3, a4, a5, a6, a7, a8, a9, a10, a11, a12, a13, a14⟩, _⟩ := blk15 S1.out
    go_wp2_with fail
    clear a0 a1 a2 a3 a4 a5 a6 a7 a8 a9 a10 a11 a12 a13 a14
    refine (cX.out _ (HTB.out.on K1.out)).mono ?_
    rintro e w2 ⟨rfl, hb⟩
    have S2 := Lib.hid (blk_on hb S1.out)
    have K2 := Lib.hid (K1.out.trans (hb.mono K1.out.size))
    clear hb S1 K1
    go_wp2
    go_ret
    exact ⟨by rw [HE.out]; rfl, K2.out⟩
  ·
    have hsq : (st == 1) = false := bne_int hs
    by_cases h60 : n = 60
    ·
      have h61 : ((n : Int) == 60) = true := beq_int (by omega)
      have HE : Hid (y = 0) := by show _ = _; rw [← HY.out, if_neg hs, if_pos h60]
      clear h60 hs
      obtain ⟨⟨a0, a1, a2, a3, a4, a5, a6, a7, a8, a9, a10, a11, a12, a13, a14⟩, _⟩ := blk15 S1.out
      go_wp2
      go_ret
      exact ⟨by rw [HE.out]; rfl, K1.out⟩
    ·
      have h61 : ((n : Int) == 60) = false := bne_int (by omega)
      have HE : Hid (y = 3) := by show _ = _; rw [← HY.out, if_neg hs, if_neg h60]
      clear h60 hs
      obtain ⟨⟨a0, a1, a2, a3, a4, a5, a6, a7, a8, a9, a10, a11, a12, a13, a14⟩, _⟩ := blk15 S1.out
      go_wp2
      go_ret
      exact ⟨by rw [HE.out]; rfl, K1.out⟩

set_option maxRecDepth 100000 in
set_option maxHeartbeats 16000000 in
theorem takenIn_e (r : RowV) (s : SeatV) (A : Option Addr) (n cap : Nat) (b : BoxV) (w : World) : Calls Tryz.prog 163 #[r.val, s.val A n cap, b.val] w fun e w' => e = .returned (.tuple #[(({ s with e := takeR r b } : SeatV)).val A n cap, .string (takeT r b), .bool (takeB r b)]) ∧ Below w.heap.size w w' := by
  have cT' := fun w' => Take_impl r b w'
  obtain ⟨⟨⟨qu, qs, qh, qa⟩, qn⟩, hq⟩ : ∃ x, takeR r b = x := ⟨_, rfl⟩
  rw [hq] at cT' ⊢
  clear hq
  generalize takeT r b = tt at cT' ⊢
  generalize takeB r b = tb at cT' ⊢
  obtain ⟨⟨ru, rs, rh, ra⟩, rn⟩ := r
  obtain ⟨⟨xu, xs, xh, xa⟩, xn, xt, xp⟩ := b
  obtain ⟨st, sh, sd, sp, ⟨⟨eu, es, eh, ea⟩, en⟩, ⟨⟨fu, fs, fh, fa⟩, fn⟩⟩ := s
  have HV : Hid (SeatV.val ⟨st, sh, sd, sp, ⟨⟨eu, es, eh, ea⟩, en⟩, ⟨⟨fu, fs, fh, fa⟩, fn⟩⟩ A n cap = .agg #[.int .i64 st, .int .i64 sh, .int .i64 sd, .int .i64 sp, .int .i64 eu, .int .i64 es, .int .i64 eh, .int .i64 ea, .int .i64 en, .int .i64 fu, .int .i64 fs, .int .i64 fh, .int .i64 fa, .int .i64 fn, .slice A n cap]) := rfl
  rw [HV.out]
  have cT : Hid (∀ w' : World, Calls Tryz.prog 164 #[.agg #[.int .i64 ru, .int .i64 rs, .int .i64 rh, .int .i64 ra, .int .i64 rn], .agg #[.int .i64 xu, .int .i64 xs, .int .i64 xh, .int .i64 xa, .int .i64 xn, .string xt, .bool xp]] w' fun e w'' => e = .returned (.tuple #[.agg #[.int .i64 qu, .int .i64 qs, .int .i64 qh, .int .i64 qa, .int .i64 qn], .string tt, .bool tb]) ∧ Below w'.heap.size w' w'') := fun w' => cT' w'
  have HR : Hid (RowV.val ⟨⟨ru, rs, rh, ra⟩, rn⟩ = .agg #[.int .i64 ru, .int .i64 rs, .int .i64 rh, .int .i64 ra, .int .i64 rn]) := rfl
  have HX : Hid (BoxV.val ⟨⟨xu, xs, xh, xa⟩, xn, xt, xp⟩ = .agg #[.int .i64 xu, .int .i64 xs, .int .i64 xh, .int .i64 xa, .int .i64 xn, .string xt, .bool xp]) := rfl
  rw [HR.out, HX.out]
  clear cT' HR HX HV
  have HN : Hid ((({ (⟨st, sh, sd, sp, ⟨⟨eu, es, eh, ea⟩, en⟩, ⟨⟨fu, fs, fh, fa⟩, fn⟩⟩ : SeatV) with e := ⟨⟨qu, qs, qh, qa⟩, qn⟩ } : SeatV)).val A n cap = .agg #[.int .i64 st, .int .i64 sh, .int .i64 sd, .int .i64 sp, .int .i64 qu, .int .i64 qs, .int .i64 qh, .int .i64 qa, .int .i64 qn, .int .i64 fu, .int .i64 fs, .int .i64 fh, .int .i64 fa, .int .i64 fn, .slice A n cap]) := rfl
  rw [HN.out]
  clear HN
  obtain ⟨W0, hW0⟩ : ∃ W, (((w.alloc (.cells #[.int .i64 ru, .int .i64 rs, .int .i64 rh, .int .i64 ra, .int .i64 rn] 116)).alloc (.cells #[.int .i64 st, .int .i64 sh, .int .i64 sd, .int .i64 sp, .int .i64 eu, .int .i64 es, .int .i64 eh, .int .i64 ea, .int .i64 en, .int .i64 fu, .int .i64 fs, .int .i64 fh, .int .i64 fa, .int .i64 fn, .slice A n cap] 57)).alloc (.cells #[.int .i64 xu, .int .i64 xs, .int .i64 xh, .int .i64 xa, .int .i64 xn, .string xt, .bool xp] 43)).alloc (.cells #[.int .i64 0, .int .i64 0, .int .i64 0, .int .i64 0, .int .i64 0, .int .i64 0, .int .i64 0, .int .i64 0, .int .i64 0, .int .i64 0, .int .i64 0, .int .i64 0, .int .i64 0, .int .i64 0, .slice none 0 0] 57) = W := ⟨_, rfl⟩
  have K0 : Hid (Below w.heap.size w W0) := by rw [← hW0]; exact ((((Below.refl _ w).alloc (Nat.le_refl _) _).alloc (by simp; try omega) _).alloc (by simp; try omega) _).alloc (by simp; try omega) _
  have Q0 : Hid (W0.heap[w.heap.size]? = some (.cells #[.int .i64 ru, .int .i64 rs, .int .i64 rh, .int .i64 ra, .int .i64 rn] 116)) := by rw [← hW0]; exact alloc_blk (alloc_blk (heap2a w _ _))
  have Y0 : Hid (W0.heap[w.heap.size + 1]? = some (.cells #[.int .i64 st, .int .i64 sh, .int .i64 sd, .int .i64 sp, .int .i64 eu, .int .i64 es, .int .i64 eh, .int .i64 ea, .int .i64 en, .int .i64 fu, .int .i64 fs, .int .i64 fh, .int .i64 fa, .int .i64 fn, .slice A n cap] 57)) := by rw [← hW0]; exact alloc_blk (alloc_blk (heap2b w _ _))
  have B0 : Hid (W0.heap[w.heap.size + 1 + 1]? = some (.cells #[.int .i64 xu, .int .i64 xs, .int .i64 xh, .int .i64 xa, .int .i64 xn, .string xt, .bool xp] 43)) := by rw [← hW0]; exact alloc_blk (heap3c w _ _ _)
  have R0 : Hid (W0.heap[w.heap.size + 1 + 1 + 1]? = some (.cells #[.int .i64 0, .int .i64 0, .int .i64 0, .int .i64 0, .int .i64 0, .int .i64 0, .int .i64 0, .int .i64 0, .int .i64 0, .int .i64 0, .int .i64 0, .int .i64 0, .int .i64 0, .int .i64 0, .slice none 0 0] 57)) := by
    rw [← hW0]
    have h1 := heap1 (((w.alloc (.cells #[.int .i64 ru, .int .i64 rs, .int .i64 rh, .int .i64 ra, .int .i64 rn] 116)).alloc (.cells #[.int .i64 st, .int .i64 sh, .int .i64 sd, .int .i64 sp, .int .i64 eu, .int .i64 es, .int .i64 eh, .int .i64 ea, .int .i64 en, .int .i64 fu, .int .i64 fs, .int .i64 fh, .int .i64 fa, .int .i64 fn, .slice A n cap] 57)).alloc (.cells #[.int .i64 xu, .int .i64 xs, .int .i64 xh, .int .i64 xa, .int .i64 xn, .string xt, .bool xp] 43)) (.cells #[.int .i64 0, .int .i64 0, .int .i64 0, .int .i64 0, .int .i64 0, .int .i64 0, .int .i64 0, .int .i64 0, .int .i64 0, .int .i64 0, .int .i64 0, .int .i64 0, .int .i64 0, .int .i64 0, .slice none 0 0] 57)
    have hs : (((w.alloc (.cells #[.int .i64 ru, .int .i64 rs, .int .i64 rh, .int .i64 ra, .int .i64 rn] 116)).alloc (.cells #[.int .i64 st, .int .i64 sh, .int .i64 sd, .int .i64 sp, .int .i64 eu, .int .i64 es, .int .i64 eh, .int .i64 ea, .int .i64 en, .int .i64 fu, .int .i64 fs, .int .i64 fh, .int .i64 fa, .int .i64 fn, .slice A n cap] 57)).alloc (.cells #[.int .i64 xu, .int .i64 xs, .int .i64 xh, .int .i64 xa, .int .i64 xn, .string xt, .bool xp] 43)).heap.size = w.heap.size + 1 + 1 + 1 := by simp
    rw [hs] at h1
    exact h1
  go_enter Tryz.func163, Tryz.ntmps163
  obtain ⟨⟨r0, r1, r2, r3, r4⟩, _⟩ := blk5 Q0.out
  obtain ⟨⟨x0, x1, x2, x3, x4, x5, x6⟩, _⟩ := blk7 B0.out

  go_wp2_with fail
  clear r0 r1 r2 r3 r4 x0 x1 x2 x3 x4 x5 x6
  clear hW0
  refine (cT.out _).mono ?_
  rintro e w1 ⟨rfl, hb⟩
  have Q1 := Lib.hid (blk_on hb Q0.out)
  have Y1 := Lib.hid (blk_on hb Y0.out)
  have B1 := Lib.hid (blk_on hb B0.out)
  have R1 := Lib.hid (blk_on hb R0.out)
  have K1 := Lib.hid (K0.out.trans (hb.mono K0.out.size))
  clear hb Q0 Y0 B0 R0 K0
  obtain ⟨V2, hV2⟩ : ∃ V, w1.alloc (.cells #[.int .i64 qu, .int .i64 qs, .int .i64 qh, .int .i64 qa, .int .i64 qn] 54) = V := ⟨_, rfl⟩
  have ltV2Q : w.heap.size < w1.heap.size := blk_in Q1.out
  have ltV2Y : w.heap.size + 1 < w1.heap.size := blk_in Y1.out
  have ltV2B : w.heap.size + 1 + 1 < w1.heap.size := blk_in B1.out
  have ltV2R : w.heap.size + 1 + 1 + 1 < w1.heap.size := blk_in R1.out
  have Q2 : Hid (V2.heap[w.heap.size]? = some (.cells #[.int .i64 ru, .int .i64 rs, .int .i64 rh, .int .i64 ra, .int .i64 rn] 116)) := by rw [← hV2]; exact alloc_blk Q1.out
  have Y2 : Hid (V2.heap[w.heap.size + 1]? = some (.cells #[.int .i64 st, .int .i64 sh, .int .i64 sd, .int .i64 sp, .int .i64 eu, .int .i64 es, .int .i64 eh, .int .i64 ea, .int .i64 en, .int .i64 fu, .int .i64 fs, .int .i64 fh, .int .i64 fa, .int .i64 fn, .slice A n cap] 57)) := by rw [← hV2]; exact alloc_blk Y1.out
  have B2 : Hid (V2.heap[w.heap.size + 1 + 1]? = some (.cells #[.int .i64 xu, .int .i64 xs, .int .i64 xh, .int .i64 xa, .int .i64 xn, .string xt, .bool xp] 43)) := by rw [← hV2]; exact alloc_blk B1.out
  have R2 : Hid (V2.heap[w.heap.size + 1 + 1 + 1]? = some (.cells #[.int .i64 0, .int .i64 0, .int .i64 0, .int .i64 0, .int .i64 0, .int .i64 0, .int .i64 0, .int .i64 0, .int .i64 0, .int .i64 0, .int .i64 0, .int .i64 0, .int .i64 0, .int .i64 0, .slice none 0 0] 57)) := by rw [← hV2]; exact alloc_blk R1.out
  have hb : Below w1.heap.size w1 V2 := by rw [← hV2]; exact (Below.refl _ w1).alloc (Nat.le_refl _) _
  have K2 := Lib.hid (K1.out.trans (hb.mono K1.out.size))
  have T2 : Hid (V2.heap[w1.heap.size]? = some (.cells #[.int .i64 qu, .int .i64 qs, .int .i64 qh, .int .i64 qa, .int .i64 qn] 54)) := by rw [← hV2]; exact heap1 w1 _
  have lbV2 : w.heap.size ≤ w1.heap.size := K1.out.size
  clear hb Q1 Y1 B1 R1 K1
  -- the row is laid, and read again
  obtain ⟨⟨c0, c1, c2, c3, c4⟩, _⟩ := blk5 T2.out
  obtain ⟨⟨d0, d1, d2, d3, d4, d5, d6, d7, d8, d9, d10, d11, d12, d13, d14⟩, dz0, dz1, dz2, dz3, dz4, dz5, dz6, dz7, dz8, dz9, dz10, dz11, dz12, dz13, dz14⟩ := blk15 Y2.out
  obtain ⟨S3, qS3⟩ : ∃ W, setAll V2 (w.heap.size + 1) 4 [.int .i64 qu, .int .i64 qs, .int .i64 qh, .int .i64 qa, .int .i64 qn] = W := ⟨_, rfl⟩
  have hS3 : (((((V2.setCell ⟨w.heap.size + 1, 4, none⟩ (.int .i64 qu)).setCell ⟨w.heap.size + 1, 5, none⟩ (.int .i64 qs)).setCell ⟨w.heap.size + 1, 6, none⟩ (.int .i64 qh)).setCell ⟨w.heap.size + 1, 7, none⟩ (.int .i64 qa)).setCell ⟨w.heap.size + 1, 8, none⟩ (.int .i64 qn)) = S3 := qS3
  have Q3 : Hid (S3.heap[w.heap.size]? = some (.cells #[.int .i64 ru, .int .i64 rs, .int .i64 rh, .int .i64 ra, .int .i64 rn] 116)) := by rw [← qS3]; exact setAll_away (by omega) _ _ Q2.out
  have Y3 : Hid (S3.heap[w.heap.size + 1]? = some (.cells #[.int .i64 st, .int .i64 sh, .int .i64 sd, .int .i64 sp, .int .i64 qu, .int .i64 qs, .int .i64 qh, .int .i64 qa, .int .i64 qn, .int .i64 fu, .int .i64 fs, .int .i64 fh, .int .i64 fa, .int .i64 fn, .slice A n cap] 57)) := by
    rw [← qS3]
    refine (setAll_blk (w := V2) (g := (w.heap.size + 1)) [.int .i64 qu, .int .i64 qs, .int .i64 qh, .int .i64 qa, .int .i64 qn] 4 Y2.out).trans ?_
    refine congrArg (fun z => some (Obj.cells z 57 (0, 0))) (Array.toList_inj.1 ?_)
    rw [overA_toList _ _ _ (by simp)]
    rfl
  have B3 : Hid (S3.heap[w.heap.size + 1 + 1]? = some (.cells #[.int .i64 xu, .int .i64 xs, .int .i64 xh, .int .i64 xa, .int .i64 xn, .string xt, .bool xp] 43)) := by rw [← qS3]; exact setAll_away (by omega) _ _ B2.out
  have R3 : Hid (S3.heap[w.heap.size + 1 + 1 + 1]? = some (.cells #[.int .i64 0, .int .i64 0, .int .i64 0, .int .i64 0, .int .i64 0, .int .i64 0, .int .i64 0, .int .i64 0, .int .i64 0, .int .i64 0, .int .i64 0, .int .i64 0, .int .i64 0, .int .i64 0, .slice none 0 0] 57)) := by rw [← qS3]; exact setAll_away (by omega) _ _ R2.out
  have T3 : Hid (S3.heap[w1.heap.size]? = some (.cells #[.int .i64 qu, .int .i64 qs, .int .i64 qh, .int .i64 qa, .int .i64 qn] 54)) := by rw [← qS3]; exact setAll_away (by omega) _ _ T2.out
  have K3 : Hid (Below w.heap.size w S3) := by rw [← qS3]; exact setAll_below (g := (w.heap.size + 1)) (by omega) [.int .i64 qu, .int .i64 qs, .int .i64 qh, .int .i64 qa, .int .i64 qn] 4 K2.out
  have zS3 : V2.heap.size = S3.heap.size := by rw [← qS3]; exact (setAll_size [.int .i64 qu, .int .i64 qs, .int .i64 qh, .int .i64 qa, .int .i64 qn] 4 _).symm
  clear qS3 Q2 Y2 B2 R2 T2 K2
  go_upto_region 3 with fail
  try rw [hS3]
  clear c0 c1 c2 c3 c4
  clear d0 d1 d2 d3 d4 d5 d6 d7 d8 d9 d10 d11 d12 d13 d14 dz0 dz1 dz2 dz3 dz4 dz5 dz6 dz7 dz8 dz9 dz10 dz11 dz12 dz13 dz14
  clear hS3 hV2
  go_wp2_with (first | (refine wpList_load_row rfl 57 _ rfl (w.heap.size + 1) rfl 57 _ (0, 0) _ Y3.out Tryz.underlying57 rfl (by kernel_rfl) ?_) | (refine wpList_store_row rfl 57 _ _ rfl (w.heap.size + 1 + 1 + 1) #[.int .i64 st, .int .i64 sh, .int .i64 sd, .int .i64 sp, .int .i64 qu, .int .i64 qs, .int .i64 qh, .int .i64 qa, .int .i64 qn, .int .i64 fu, .int .i64 fs, .int .i64 fh, .int .i64 fa, .int .i64 fn, .slice A n cap] rfl rfl 57 _ R3.out (by kernel_rfl) rfl (by simp [Value.oneCell']) ?_))
  exact row_ret3 (r := w.heap.size + 1 + 1 + 1) (cs := #[.int .i64 st, .int .i64 sh, .int .i64 sd, .int .i64 sp, .int .i64 qu, .int .i64 qs, .int .i64 qh, .int .i64 qa, .int .i64 qn, .int .i64 fu, .int .i64 fs, .int .i64 fh, .int .i64 fa, .int .i64 fn, .slice A n cap]) rfl rfl rfl rfl (setRow_heap _ _ _ _ _ _ R3.out) Tryz.underlying57 rfl (by kernel_rfl) rfl ⟨rfl, below_setRow K3.out (by omega) _⟩

set_option maxRecDepth 100000 in
set_option maxHeartbeats 16000000 in
theorem takenIn_f (r : RowV) (s : SeatV) (A : Option Addr) (n cap : Nat) (b : BoxV) (w : World) : Calls Tryz.prog 169 #[r.val, s.val A n cap, b.val] w fun e w' => e = .returned (.tuple #[(({ s with f := takeR r b } : SeatV)).val A n cap, .string (takeT r b), .bool (takeB r b)]) ∧ Below w.heap.size w w' := by
  have cT' := fun w' => Take_impl r b w'
  obtain ⟨⟨⟨qu, qs, qh, qa⟩, qn⟩, hq⟩ : ∃ x, takeR r b = x := ⟨_, rfl⟩
  rw [hq] at cT' ⊢
  clear hq
  generalize takeT r b = tt at cT' ⊢
  generalize takeB r b = tb at cT' ⊢
  obtain ⟨⟨ru, rs, rh, ra⟩, rn⟩ := r
  obtain ⟨⟨xu, xs, xh, xa⟩, xn, xt, xp⟩ := b
  obtain ⟨st, sh, sd, sp, ⟨⟨eu, es, eh, ea⟩, en⟩, ⟨⟨fu, fs, fh, fa⟩, fn⟩⟩ := s
  have HV : Hid (SeatV.val ⟨st, sh, sd, sp, ⟨⟨eu, es, eh, ea⟩, en⟩, ⟨⟨fu, fs, fh, fa⟩, fn⟩⟩ A n cap = .agg #[.int .i64 st, .int .i64 sh, .int .i64 sd, .int .i64 sp, .int .i64 eu, .int .i64 es, .int .i64 eh, .int .i64 ea, .int .i64 en, .int .i64 fu, .int .i64 fs, .int .i64 fh, .int .i64 fa, .int .i64 fn, .slice A n cap]) := rfl
  rw [HV.out]
  have cT : Hid (∀ w' : World, Calls Tryz.prog 164 #[.agg #[.int .i64 ru, .int .i64 rs, .int .i64 rh, .int .i64 ra, .int .i64 rn], .agg #[.int .i64 xu, .int .i64 xs, .int .i64 xh, .int .i64 xa, .int .i64 xn, .string xt, .bool xp]] w' fun e w'' => e = .returned (.tuple #[.agg #[.int .i64 qu, .int .i64 qs, .int .i64 qh, .int .i64 qa, .int .i64 qn], .string tt, .bool tb]) ∧ Below w'.heap.size w' w'') := fun w' => cT' w'
  have HR : Hid (RowV.val ⟨⟨ru, rs, rh, ra⟩, rn⟩ = .agg #[.int .i64 ru, .int .i64 rs, .int .i64 rh, .int .i64 ra, .int .i64 rn]) := rfl
  have HX : Hid (BoxV.val ⟨⟨xu, xs, xh, xa⟩, xn, xt, xp⟩ = .agg #[.int .i64 xu, .int .i64 xs, .int .i64 xh, .int .i64 xa, .int .i64 xn, .string xt, .bool xp]) := rfl
  rw [HR.out, HX.out]
  clear cT' HR HX HV
  have HN : Hid ((({ (⟨st, sh, sd, sp, ⟨⟨eu, es, eh, ea⟩, en⟩, ⟨⟨fu, fs, fh, fa⟩, fn⟩⟩ : SeatV) with f := ⟨⟨qu, qs, qh, qa⟩, qn⟩ } : SeatV)).val A n cap = .agg #[.int .i64 st, .int .i64 sh, .int .i64 sd, .int .i64 sp, .int .i64 eu, .int .i64 es, .int .i64 eh, .int .i64 ea, .int .i64 en, .int .i64 qu, .int .i64 qs, .int .i64 qh, .int .i64 qa, .int .i64 qn, .slice A n cap]) := rfl
  rw [HN.out]
  clear HN
  obtain ⟨W0, hW0⟩ : ∃ W, (((w.alloc (.cells #[.int .i64 ru, .int .i64 rs, .int .i64 rh, .int .i64 ra, .int .i64 rn] 117)).alloc (.cells #[.int .i64 st, .int .i64 sh, .int .i64 sd, .int .i64 sp, .int .i64 eu, .int .i64 es, .int .i64 eh, .int .i64 ea, .int .i64 en, .int .i64 fu, .int .i64 fs, .int .i64 fh, .int .i64 fa, .int .i64 fn, .slice A n cap] 57)).alloc (.cells #[.int .i64 xu, .int .i64 xs, .int .i64 xh, .int .i64 xa, .int .i64 xn, .string xt, .bool xp] 43)).alloc (.cells #[.int .i64 0, .int .i64 0, .int .i64 0, .int .i64 0, .int .i64 0, .int .i64 0, .int .i64 0, .int .i64 0, .int .i64 0, .int .i64 0, .int .i64 0, .int .i64 0, .int .i64 0, .int .i64 0, .slice none 0 0] 57) = W := ⟨_, rfl⟩
  have K0 : Hid (Below w.heap.size w W0) := by rw [← hW0]; exact ((((Below.refl _ w).alloc (Nat.le_refl _) _).alloc (by simp; try omega) _).alloc (by simp; try omega) _).alloc (by simp; try omega) _
  have Q0 : Hid (W0.heap[w.heap.size]? = some (.cells #[.int .i64 ru, .int .i64 rs, .int .i64 rh, .int .i64 ra, .int .i64 rn] 117)) := by rw [← hW0]; exact alloc_blk (alloc_blk (heap2a w _ _))
  have Y0 : Hid (W0.heap[w.heap.size + 1]? = some (.cells #[.int .i64 st, .int .i64 sh, .int .i64 sd, .int .i64 sp, .int .i64 eu, .int .i64 es, .int .i64 eh, .int .i64 ea, .int .i64 en, .int .i64 fu, .int .i64 fs, .int .i64 fh, .int .i64 fa, .int .i64 fn, .slice A n cap] 57)) := by rw [← hW0]; exact alloc_blk (alloc_blk (heap2b w _ _))
  have B0 : Hid (W0.heap[w.heap.size + 1 + 1]? = some (.cells #[.int .i64 xu, .int .i64 xs, .int .i64 xh, .int .i64 xa, .int .i64 xn, .string xt, .bool xp] 43)) := by rw [← hW0]; exact alloc_blk (heap3c w _ _ _)
  have R0 : Hid (W0.heap[w.heap.size + 1 + 1 + 1]? = some (.cells #[.int .i64 0, .int .i64 0, .int .i64 0, .int .i64 0, .int .i64 0, .int .i64 0, .int .i64 0, .int .i64 0, .int .i64 0, .int .i64 0, .int .i64 0, .int .i64 0, .int .i64 0, .int .i64 0, .slice none 0 0] 57)) := by
    rw [← hW0]
    have h1 := heap1 (((w.alloc (.cells #[.int .i64 ru, .int .i64 rs, .int .i64 rh, .int .i64 ra, .int .i64 rn] 117)).alloc (.cells #[.int .i64 st, .int .i64 sh, .int .i64 sd, .int .i64 sp, .int .i64 eu, .int .i64 es, .int .i64 eh, .int .i64 ea, .int .i64 en, .int .i64 fu, .int .i64 fs, .int .i64 fh, .int .i64 fa, .int .i64 fn, .slice A n cap] 57)).alloc (.cells #[.int .i64 xu, .int .i64 xs, .int .i64 xh, .int .i64 xa, .int .i64 xn, .string xt, .bool xp] 43)) (.cells #[.int .i64 0, .int .i64 0, .int .i64 0, .int .i64 0, .int .i64 0, .int .i64 0, .int .i64 0, .int .i64 0, .int .i64 0, .int .i64 0, .int .i64 0, .int .i64 0, .int .i64 0, .int .i64 0, .slice none 0 0] 57)
    have hs : (((w.alloc (.cells #[.int .i64 ru, .int .i64 rs, .int .i64 rh, .int .i64 ra, .int .i64 rn] 117)).alloc (.cells #[.int .i64 st, .int .i64 sh, .int .i64 sd, .int .i64 sp, .int .i64 eu, .int .i64 es, .int .i64 eh, .int .i64 ea, .int .i64 en, .int .i64 fu, .int .i64 fs, .int .i64 fh, .int .i64 fa, .int .i64 fn, .slice A n cap] 57)).alloc (.cells #[.int .i64 xu, .int .i64 xs, .int .i64 xh, .int .i64 xa, .int .i64 xn, .string xt, .bool xp] 43)).heap.size = w.heap.size + 1 + 1 + 1 := by simp
    rw [hs] at h1
    exact h1
  go_enter Tryz.func169, Tryz.ntmps169
  obtain ⟨⟨r0, r1, r2, r3, r4⟩, _⟩ := blk5 Q0.out
  obtain ⟨⟨x0, x1, x2, x3, x4, x5, x6⟩, _⟩ := blk7 B0.out

  go_wp2_with fail
  clear r0 r1 r2 r3 r4 x0 x1 x2 x3 x4 x5 x6
  clear hW0
  refine (cT.out _).mono ?_
  rintro e w1 ⟨rfl, hb⟩
  have Q1 := Lib.hid (blk_on hb Q0.out)
  have Y1 := Lib.hid (blk_on hb Y0.out)
  have B1 := Lib.hid (blk_on hb B0.out)
  have R1 := Lib.hid (blk_on hb R0.out)
  have K1 := Lib.hid (K0.out.trans (hb.mono K0.out.size))
  clear hb Q0 Y0 B0 R0 K0
  obtain ⟨V2, hV2⟩ : ∃ V, w1.alloc (.cells #[.int .i64 qu, .int .i64 qs, .int .i64 qh, .int .i64 qa, .int .i64 qn] 54) = V := ⟨_, rfl⟩
  have ltV2Q : w.heap.size < w1.heap.size := blk_in Q1.out
  have ltV2Y : w.heap.size + 1 < w1.heap.size := blk_in Y1.out
  have ltV2B : w.heap.size + 1 + 1 < w1.heap.size := blk_in B1.out
  have ltV2R : w.heap.size + 1 + 1 + 1 < w1.heap.size := blk_in R1.out
  have Q2 : Hid (V2.heap[w.heap.size]? = some (.cells #[.int .i64 ru, .int .i64 rs, .int .i64 rh, .int .i64 ra, .int .i64 rn] 117)) := by rw [← hV2]; exact alloc_blk Q1.out
  have Y2 : Hid (V2.heap[w.heap.size + 1]? = some (.cells #[.int .i64 st, .int .i64 sh, .int .i64 sd, .int .i64 sp, .int .i64 eu, .int .i64 es, .int .i64 eh, .int .i64 ea, .int .i64 en, .int .i64 fu, .int .i64 fs, .int .i64 fh, .int .i64 fa, .int .i64 fn, .slice A n cap] 57)) := by rw [← hV2]; exact alloc_blk Y1.out
  have B2 : Hid (V2.heap[w.heap.size + 1 + 1]? = some (.cells #[.int .i64 xu, .int .i64 xs, .int .i64 xh, .int .i64 xa, .int .i64 xn, .string xt, .bool xp] 43)) := by rw [← hV2]; exact alloc_blk B1.out
  have R2 : Hid (V2.heap[w.heap.size + 1 + 1 + 1]? = some (.cells #[.int .i64 0, .int .i64 0, .int .i64 0, .int .i64 0, .int .i64 0, .int .i64 0, .int .i64 0, .int .i64 0, .int .i64 0, .int .i64 0, .int .i64 0, .int .i64 0, .int .i64 0, .int .i64 0, .slice none 0 0] 57)) := by rw [← hV2]; exact alloc_blk R1.out
  have hb : Below w1.heap.size w1 V2 := by rw [← hV2]; exact (Below.refl _ w1).alloc (Nat.le_refl _) _
  have K2 := Lib.hid (K1.out.trans (hb.mono K1.out.size))
  have T2 : Hid (V2.heap[w1.heap.size]? = some (.cells #[.int .i64 qu, .int .i64 qs, .int .i64 qh, .int .i64 qa, .int .i64 qn] 54)) := by rw [← hV2]; exact heap1 w1 _
  have lbV2 : w.heap.size ≤ w1.heap.size := K1.out.size
  clear hb Q1 Y1 B1 R1 K1
  -- the row is laid, and read again
  obtain ⟨⟨c0, c1, c2, c3, c4⟩, _⟩ := blk5 T2.out
  obtain ⟨⟨d0, d1, d2, d3, d4, d5, d6, d7, d8, d9, d10, d11, d12, d13, d14⟩, dz0, dz1, dz2, dz3, dz4, dz5, dz6, dz7, dz8, dz9, dz10, dz11, dz12, dz13, dz14⟩ := blk15 Y2.out
  obtain ⟨S3, qS3⟩ : ∃ W, setAll V2 (w.heap.size + 1) 9 [.int .i64 qu, .int .i64 qs, .int .i64 qh, .int .i64 qa, .int .i64 qn] = W := ⟨_, rfl⟩
  have hS3 : (((((V2.setCell ⟨w.heap.size + 1, 9, none⟩ (.int .i64 qu)).setCell ⟨w.heap.size + 1, 10, none⟩ (.int .i64 qs)).setCell ⟨w.heap.size + 1, 11, none⟩ (.int .i64 qh)).setCell ⟨w.heap.size + 1, 12, none⟩ (.int .i64 qa)).setCell ⟨w.heap.size + 1, 13, none⟩ (.int .i64 qn)) = S3 := qS3
  have Q3 : Hid (S3.heap[w.heap.size]? = some (.cells #[.int .i64 ru, .int .i64 rs, .int .i64 rh, .int .i64 ra, .int .i64 rn] 117)) := by rw [← qS3]; exact setAll_away (by omega) _ _ Q2.out
  have Y3 : Hid (S3.heap[w.heap.size + 1]? = some (.cells #[.int .i64 st, .int .i64 sh, .int .i64 sd, .int .i64 sp, .int .i64 eu, .int .i64 es, .int .i64 eh, .int .i64 ea, .int .i64 en, .int .i64 qu, .int .i64 qs, .int .i64 qh, .int .i64 qa, .int .i64 qn, .slice A n cap] 57)) := by
    rw [← qS3]
    refine (setAll_blk (w := V2) (g := (w.heap.size + 1)) [.int .i64 qu, .int .i64 qs, .int .i64 qh, .int .i64 qa, .int .i64 qn] 9 Y2.out).trans ?_
    refine congrArg (fun z => some (Obj.cells z 57 (0, 0))) (Array.toList_inj.1 ?_)
    rw [overA_toList _ _ _ (by simp)]
    rfl
  have B3 : Hid (S3.heap[w.heap.size + 1 + 1]? = some (.cells #[.int .i64 xu, .int .i64 xs, .int .i64 xh, .int .i64 xa, .int .i64 xn, .string xt, .bool xp] 43)) := by rw [← qS3]; exact setAll_away (by omega) _ _ B2.out
  have R3 : Hid (S3.heap[w.heap.size + 1 + 1 + 1]? = some (.cells #[.int .i64 0, .int .i64 0, .int .i64 0, .int .i64 0, .int .i64 0, .int .i64 0, .int .i64 0, .int .i64 0, .int .i64 0, .int .i64 0, .int .i64 0, .int .i64 0, .int .i64 0, .int .i64 0, .slice none 0 0] 57)) := by rw [← qS3]; exact setAll_away (by omega) _ _ R2.out
  have T3 : Hid (S3.heap[w1.heap.size]? = some (.cells #[.int .i64 qu, .int .i64 qs, .int .i64 qh, .int .i64 qa, .int .i64 qn] 54)) := by rw [← qS3]; exact setAll_away (by omega) _ _ T2.out
  have K3 : Hid (Below w.heap.size w S3) := by rw [← qS3]; exact setAll_below (g := (w.heap.size + 1)) (by omega) [.int .i64 qu, .int .i64 qs, .int .i64 qh, .int .i64 qa, .int .i64 qn] 9 K2.out
  have zS3 : V2.heap.size = S3.heap.size := by rw [← qS3]; exact (setAll_size [.int .i64 qu, .int .i64 qs, .int .i64 qh, .int .i64 qa, .int .i64 qn] 9 _).symm
  clear qS3 Q2 Y2 B2 R2 T2 K2
  go_upto_region 3 with fail
  try rw [hS3]
  clear c0 c1 c2 c3 c4
  clear d0 d1 d2 d3 d4 d5 d6 d7 d8 d9 d10 d11 d12 d13 d14 dz0 dz1 dz2 dz3 dz4 dz5 dz6 dz7 dz8 dz9 dz10 dz11 dz12 dz13 dz14
  clear hS3 hV2
  go_wp2_with (first | (refine wpList_load_row rfl 57 _ rfl (w.heap.size + 1) rfl 57 _ (0, 0) _ Y3.out Tryz.underlying57 rfl (by kernel_rfl) ?_) | (refine wpList_store_row rfl 57 _ _ rfl (w.heap.size + 1 + 1 + 1) #[.int .i64 st, .int .i64 sh, .int .i64 sd, .int .i64 sp, .int .i64 eu, .int .i64 es, .int .i64 eh, .int .i64 ea, .int .i64 en, .int .i64 qu, .int .i64 qs, .int .i64 qh, .int .i64 qa, .int .i64 qn, .slice A n cap] rfl rfl 57 _ R3.out (by kernel_rfl) rfl (by simp [Value.oneCell']) ?_))
  exact row_ret3 (r := w.heap.size + 1 + 1 + 1) (cs := #[.int .i64 st, .int .i64 sh, .int .i64 sd, .int .i64 sp, .int .i64 eu, .int .i64 es, .int .i64 eh, .int .i64 ea, .int .i64 en, .int .i64 qu, .int .i64 qs, .int .i64 qh, .int .i64 qa, .int .i64 qn, .slice A n cap]) rfl rfl rfl rfl (setRow_heap _ _ _ _ _ _ R3.out) Tryz.underlying57 rfl (by kernel_rfl) rfl ⟨rfl, below_setRow K3.out (by omega) _⟩

set_option maxRecDepth 100000 in
set_option maxHeartbeats 16000000 in
theorem rows_any (s : SeatV) (A : Option Addr) (n cap : Nat) (w : World) : Calls Tryz.prog 45 #[s.val A n cap] w fun e w' => ∃ g, e = .returned (.slice (some ⟨g, 0, none⟩) 2 2) ∧ w.heap.size ≤ g ∧ w'.heap[g]? = some (.cells #[.iface 116 s.e.val, .iface 117 s.f.val] 92) ∧ Below w.heap.size w w' := by
  obtain ⟨st, sh, sd, sp, ⟨⟨eu, es, eh, ea⟩, en⟩, ⟨⟨fu, fs, fh, fa⟩, fn⟩⟩ := s
  have HV : Hid (SeatV.val ⟨st, sh, sd, sp, ⟨⟨eu, es, eh, ea⟩, en⟩, ⟨⟨fu, fs, fh, fa⟩, fn⟩⟩ A n cap = .agg #[.int .i64 st, .int .i64 sh, .int .i64 sd, .int .i64 sp, .int .i64 eu, .int .i64 es, .int .i64 eh, .int .i64 ea, .int .i64 en, .int .i64 fu, .int .i64 fs, .int .i64 fh, .int .i64 fa, .int .i64 fn, .slice A n cap]) := rfl
  rw [HV.out]
  dsimp only
  have HE : Hid (RowV.val ⟨⟨eu, es, eh, ea⟩, en⟩ = .agg #[.int .i64 eu, .int .i64 es, .int .i64 eh, .int .i64 ea, .int .i64 en]) := rfl
  have HF : Hid (RowV.val ⟨⟨fu, fs, fh, fa⟩, fn⟩ = .agg #[.int .i64 fu, .int .i64 fs, .int .i64 fh, .int .i64 fa, .int .i64 fn]) := rfl
  rw [HE.out, HF.out]
  clear HV HE HF
  obtain ⟨W0, hW0⟩ : ∃ W, w.alloc (.cells #[.int .i64 st, .int .i64 sh, .int .i64 sd, .int .i64 sp, .int .i64 eu, .int .i64 es, .int .i64 eh, .int .i64 ea, .int .i64 en, .int .i64 fu, .int .i64 fs, .int .i64 fh, .int .i64 fa, .int .i64 fn, .slice A n cap] 57) = W := ⟨_, rfl⟩
  have K0 : Hid (Below w.heap.size w W0) := by rw [← hW0]; exact (Below.refl _ w).alloc (Nat.le_refl _) _
  have S0 : Hid (W0.heap[w.heap.size]? = some (.cells #[.int .i64 st, .int .i64 sh, .int .i64 sd, .int .i64 sp, .int .i64 eu, .int .i64 es, .int .i64 eh, .int .i64 ea, .int .i64 en, .int .i64 fu, .int .i64 fs, .int .i64 fh, .int .i64 fa, .int .i64 fn, .slice A n cap] 57)) := by rw [← hW0]; exact heap1 w _
  go_enter Tryz.func45, Tryz.ntmps45
  obtain ⟨⟨a0, a1, a2, a3, a4, a5, a6, a7, a8, a9, a10, a11, a12, a13, a14⟩, _⟩ := blk15 S0.out
  go_wp2_with fail
  go_ret
  exact ⟨_, rfl, K0.out.size, heap1 _ _, K0.out.alloc K0.out.size _⟩

end Go.Proofs.YtioogmeghmeelaaGreatDoor.Tx
namespace Go.Proofs.YtioogmeghmeelaaGreatDoor.Tx
open Go.RowKit

/-- What one row alone would make of a box. -/
def codeE (s : SeatV) (n : Nat) (b : BoxV) : Int := if takeB s.e b then (if n = 60 then 0 else 1) else 0
def codeF (s : SeatV) (n : Nat) (b : BoxV) : Int := if takeB s.f b then (if s.st = 1 then (if isEnd (takeT s.f b) n then 2 else 0) else if n = 60 then 0 else 3) else 0
theorem take_zero (b : BoxV) : takeB .zero b = false := by
  have h : goesB .zero = false := by simp [goesB, RowV.zero, KeyV.same_self]
  rw [takeB, h]; simp
theorem took_key {r : RowV} {b : BoxV} (h : takeB r b = true) : b.k = r.k ∧ r.k.same .zero = false := by
  simp only [takeB, Bool.and_eq_true] at h
  refine ⟨(open_true h.2.1).1, ?_⟩
  have h1 := h.2.2
  simp only [goesB, Bool.and_eq_true, Bool.not_eq_true'] at h1
  exact h1.1
/-- A right seat's rows: which can take a box. -/
theorem seat_rows {s : SeatV} {n : Nat} (h : seatOkB s n = true) : (s.st = 1 ∨ s.st = 2) ∧ n ≤ 60 ∧ (s.st ≠ 1 → s.e = .zero) ∧ (∀ b, takeB s.e b = true → takeB s.f b = false) := by
  have h0 := h
  rw [seat_prog] at h
  simp only [Bool.and_eq_true, Bool.or_eq_true, beq_iff_eq, decide_eq_true_eq] at h
  obtain ⟨a, h1, h2, _, h4, h5, h6⟩ := h
  have hz : s.st ≠ 1 → s.e = .zero := fun hn => by
    rw [erlB, bne_int hn] at h5
    have h7 : s.e.isZ = true := by simpa using h5
    exact isZ_iff h7
  refine ⟨a, h6, hz, fun b hb => ?_⟩
  rw [Bool.eq_false_iff]
  intro hf
  obtain ⟨e1, e2⟩ := took_key hb
  obtain ⟨f1, f2⟩ := took_key hf
  have he : s.st = 1 ∧ s.p = 3 := by
    by_cases hc : s.st = 1 ∧ s.p = 3
    · exact hc
    · have hq : (s.st == 1 && s.p == 3) = false := by
        rw [Bool.eq_false_iff]
        intro hq
        simp only [Bool.and_eq_true, beq_iff_eq] at hq
        exact hc hq
      rw [erlB, hq] at h5
      have h7 : s.e.isZ = true := by simpa using h5
      rw [isZ_iff h7, take_zero] at hb
      cases hb
  rw [erlB, beq_int he.1, beq_int he.2] at h5
  simp only [Bool.and_true, if_true, Bool.and_eq_true] at h5
  have k1 := KeyV.same_iff.1 h5.2
  simp only [fthB, Bool.and_eq_true] at h4
  have k2 := KeyV.same_iff.1 h4.2
  have u1 : s.e.k.u = 1 := by
    cases hb1 : keyOkB ⟨1, s.f.k.s, s.h, 0⟩ with
    | true => rw [k1, earlyK, rightK_yes hb1]
    | false =>
      rw [earlyK, rightK_no hb1] at k1
      rw [k1, KeyV.same_self] at e2
      cases e2
  have u2 : s.f.k.u = 4 := by
    cases hb1 : keyOkB ⟨4, s.f.k.s, s.h, s.d⟩ with
    | true =>
      rw [forthK, rightK_yes hb1] at k2
      rw [k2]
    | false =>
      rw [forthK, rightK_no hb1] at k2
      rw [k2, KeyV.same_self] at f2
      cases f2
  rw [e1] at f1
  rw [f1, u2] at u1
  cases u1
/-- What a right seat hears: as its rows say, one behind the other. -/
theorem hear_first {s : SeatV} {n : Nat} {b : BoxV} {l : List WordV} (hl : l.length = n) (h : seatOkB s n = true) (hc : codeE s n b ≠ 0) : hearC s n b = codeE s n b ∧ hearS s n b = { s with e := takeR s.e b } ∧ hearL s l b = l ++ [⟨takeT s.e b, true⟩] := by
  obtain ⟨ha, h6, hz, hx⟩ := seat_rows h
  have ht : takeB s.e b = true := by
    cases ht : takeB s.e b with
    | true => rfl
    | false => rw [codeE, ht] at hc; exact absurd rfl hc
  rw [codeE, if_pos ht] at hc
  have hn : n ≠ 60 := fun e => by rw [if_pos e] at hc; exact hc rfl
  have hs : s.st = 1 := by
    rcases ha with e | e
    · exact e
    · rw [hz (by omega), take_zero] at ht; cases ht
  have h1 : hearC s n b = 1 := by rw [hearC, if_pos h, if_pos hs, if_pos ht, if_pos (by omega)]
  refine ⟨by rw [h1, codeE, if_pos ht, if_neg hn], by rw [hearS, if_pos h, if_pos h1], ?_⟩
  rw [hearL, hl, if_pos h, if_pos h1]
theorem hear_next {s : SeatV} {n : Nat} {b : BoxV} {l : List WordV} (hl : l.length = n) (h : seatOkB s n = true) (hf : codeF s n b ≠ 0) :
    hearC s n b = codeF s n b ∧ ((codeF s n b = 2 ∧ hearS s n b = { s with st := 2, e := .zero, f := takeR s.f b } ∧ hearL s l b = l) ∨ (codeF s n b = 3 ∧ hearS s n b = { s with f := takeR s.f b } ∧ hearL s l b = l ++ [⟨takeT s.f b, false⟩])) := by
  obtain ⟨ha, h6, hz, hx⟩ := seat_rows h
  have ht : takeB s.f b = true := by
    cases ht : takeB s.f b with
    | true => rfl
    | false => rw [codeF, ht] at hf; exact absurd rfl hf
  have he : takeB s.e b = false := by
    cases he : takeB s.e b with
    | false => rfl
    | true => rw [hx b he] at ht; cases ht
  rw [codeF, if_pos ht] at hf ⊢
  by_cases hs : s.st = 1
  · rw [if_pos hs] at hf ⊢
    cases hi : isEnd (takeT s.f b) n with
    | false => rw [hi] at hf; exact absurd rfl hf
    | true =>
      have h1 : hearC s n b = 2 := by rw [hearC, if_pos h, if_pos hs, he, ht, hi]; rfl
      have n1 : ¬ hearC s n b = 1 := by omega
      refine ⟨h1, .inl ⟨rfl, by rw [hearS, if_pos h, if_neg n1, if_pos h1], ?_⟩⟩
      rw [hearL, hl, if_pos h, if_neg n1, if_neg (by omega)]
  · rw [if_neg hs] at hf ⊢
    have hn : n ≠ 60 := fun e => by rw [if_pos e] at hf; exact hf rfl
    rw [if_neg hn]
    have h1 : hearC s n b = 3 := by rw [hearC, if_pos h, if_neg hs, ht, decide_eq_true (show n < 60 by omega)]; rfl
    have n1 : ¬ hearC s n b = 1 := by omega
    have n2 : ¬ hearC s n b = 2 := by omega
    refine ⟨h1, .inr ⟨rfl, by rw [hearS, if_pos h, if_neg n1, if_neg n2, if_pos h1], ?_⟩⟩
    rw [hearL, hl, if_pos h, if_neg n1, if_pos h1]
theorem hear_none {s : SeatV} {n : Nat} {b : BoxV} {l : List WordV} (hl : l.length = n) (h : seatOkB s n = true) (hc : codeE s n b = 0) (hf : codeF s n b = 0) : hearC s n b = 0 ∧ hearS s n b = s ∧ hearL s l b = l := by
  obtain ⟨ha, h6, hz, hx⟩ := seat_rows h
  have h1 : hearC s n b = 0 := by
    rw [hearC, if_pos h]
    by_cases hs : s.st = 1
    · rw [if_pos hs]
      cases he : takeB s.e b with
      | true =>
        rw [codeE, if_pos he] at hc
        have hn : n = 60 := by
          by_cases e : n = 60
          · exact e
          · rw [if_neg e] at hc; cases hc
        rw [if_pos rfl, if_neg (by omega)]
      | false =>
        cases ht : takeB s.f b with
        | false => rfl
        | true =>
          rw [codeF, if_pos ht, if_pos hs] at hf
          cases hi : isEnd (takeT s.f b) n with
          | false => rfl
          | true => rw [hi] at hf; cases hf
    · rw [if_neg hs]
      cases ht : takeB s.f b with
      | false => rfl
      | true =>
        rw [codeF, if_pos ht, if_neg hs] at hf
        have hn : n = 60 := by
          by_cases e : n = 60
          · exact e
          · rw [if_neg e] at hf; cases hf
        subst hn
        rfl
  refine ⟨h1, ?_, ?_⟩
  · rw [hearS, if_pos h, h1]; rfl
  · rw [hearL, hl, if_pos h, h1]; rfl

set_option maxRecDepth 100000 in
set_option maxHeartbeats 16000000 in
theorem hearing_e (s : SeatV) (A : Option Addr) (n cap : Nat) (l : List WordV) (b : BoxV) (w : World) (h : EltsO w w.heap.size A n l) (hzc : A = none → cap = 0) (hn : n ≤ 1048576) :
    Calls Tryz.prog 46 #[s.val A n cap, .iface 116 s.e.val, b.val] w fun e w' => ∃ (q : SeatV) (A' : Option Addr) (n' c' : Nat), e = .returned (.tuple #[q.val A' n' c', .int .i64 (codeE s n b)]) ∧ (codeE s n b ≠ 0 → q = { s with e := takeR s.e b } ∧ LogOut w' w.heap.size A' n' c' (l ++ [⟨takeT s.e b, true⟩])) ∧ Below w.heap.size w w' := by
  obtain ⟨i0, by0, hi, hz0, hz1, hz2, hby⟩ := infoWordE
  have E := Lib.hid h
  have hln : l.length = n := h.1
  have cC' := fun (w' : World) (h' : EltsO w' w'.heap.size A n l) => copied_any s A n cap l w' h' hzc hn
  have cT' := fun (g cb : Nat) (w' : World) => takenIn_e s.e s (some ⟨g, 0, none⟩) n cb b w'
  have cA' := fun (w' : World) => heardAs_e s A n cap s.e (takeT s.e b) hn w'
  clear h hzc
  obtain ⟨ya, hya⟩ : ∃ ya, (if n = 60 then (0 : Int) else 1) = ya := ⟨_, rfl⟩
  obtain ⟨y, hy⟩ : ∃ y, codeE s n b = y := ⟨_, rfl⟩
  have hy2 : (if takeB s.e b then (if n = 60 then (0 : Int) else 1) else 0) = y := hy
  rw [hya] at hy2 cA'
  rw [hy]
  have HY := Lib.hid hy2
  have HYA := Lib.hid hya
  clear hy hy2 hya
  obtain ⟨⟨⟨qu, qs, qh, qa⟩, qn⟩, hq⟩ : ∃ x, takeR s.e b = x := ⟨_, rfl⟩
  rw [hq] at cT' ⊢
  clear hq
  generalize takeT s.e b = tt at cT' cA' ⊢
  generalize takeB s.e b = tb at cT' HY
  obtain ⟨⟨xu, xs, xh, xa⟩, xn, xt, xp⟩ := b
  obtain ⟨st, sh, sd, sp, ⟨⟨eu, es, eh, ea⟩, en⟩, ⟨⟨fu, fs, fh, fa⟩, fn⟩⟩ := s
  have HV : Hid (SeatV.val ⟨st, sh, sd, sp, ⟨⟨eu, es, eh, ea⟩, en⟩, ⟨⟨fu, fs, fh, fa⟩, fn⟩⟩ A n cap = .agg #[.int .i64 st, .int .i64 sh, .int .i64 sd, .int .i64 sp, .int .i64 eu, .int .i64 es, .int .i64 eh, .int .i64 ea, .int .i64 en, .int .i64 fu, .int .i64 fs, .int .i64 fh, .int .i64 fa, .int .i64 fn, .slice A n cap]) := rfl
  have HVG := fun (g cb : Nat) => Lib.hid (show SeatV.val ⟨st, sh, sd, sp, ⟨⟨eu, es, eh, ea⟩, en⟩, ⟨⟨fu, fs, fh, fa⟩, fn⟩⟩ (some ⟨g, 0, none⟩) n cb = .agg #[.int .i64 st, .int .i64 sh, .int .i64 sd, .int .i64 sp, .int .i64 eu, .int .i64 es, .int .i64 eh, .int .i64 ea, .int .i64 en, .int .i64 fu, .int .i64 fs, .int .i64 fh, .int .i64 fa, .int .i64 fn, .slice (some ⟨g, 0, none⟩) n cb] from rfl)
  have HX : Hid (BoxV.val ⟨⟨xu, xs, xh, xa⟩, xn, xt, xp⟩ = .agg #[.int .i64 xu, .int .i64 xs, .int .i64 xh, .int .i64 xa, .int .i64 xn, .string xt, .bool xp]) := rfl
  have HR : Hid (RowV.val ⟨⟨eu, es, eh, ea⟩, en⟩ = .agg #[.int .i64 eu, .int .i64 es, .int .i64 eh, .int .i64 ea, .int .i64 en]) := rfl
  dsimp only at cT' cA' HY HYA ⊢
  rw [HV.out, HR.out, HX.out]
  have cC : Hid (∀ w' : World, EltsO w' w'.heap.size A n l → Calls Tryz.prog 47 #[.agg #[.int .i64 st, .int .i64 sh, .int .i64 sd, .int .i64 sp, .int .i64 eu, .int .i64 es, .int .i64 eh, .int .i64 ea, .int .i64 en, .int .i64 fu, .int .i64 fs, .int .i64 fh, .int .i64 fa, .int .i64 fn, .slice A n cap]] w' fun e w'' => ∃ g cb, e = .returned (.agg #[.int .i64 st, .int .i64 sh, .int .i64 sd, .int .i64 sp, .int .i64 eu, .int .i64 es, .int .i64 eh, .int .i64 ea, .int .i64 en, .int .i64 fu, .int .i64 fs, .int .i64 fh, .int .i64 fa, .int .i64 fn, .slice (some ⟨g, 0, none⟩) n cb]) ∧ MadeE w'' w'.heap.size 82 l g cb ∧ Below w'.heap.size w' w'') := cC'
  have cT : Hid (∀ (g cb : Nat) (w' : World), Calls Tryz.prog 163 #[.agg #[.int .i64 eu, .int .i64 es, .int .i64 eh, .int .i64 ea, .int .i64 en], .agg #[.int .i64 st, .int .i64 sh, .int .i64 sd, .int .i64 sp, .int .i64 eu, .int .i64 es, .int .i64 eh, .int .i64 ea, .int .i64 en, .int .i64 fu, .int .i64 fs, .int .i64 fh, .int .i64 fa, .int .i64 fn, .slice (some ⟨g, 0, none⟩) n cb], .agg #[.int .i64 xu, .int .i64 xs, .int .i64 xh, .int .i64 xa, .int .i64 xn, .string xt, .bool xp]] w' fun e w'' => e = .returned (.tuple #[.agg #[.int .i64 st, .int .i64 sh, .int .i64 sd, .int .i64 sp, .int .i64 qu, .int .i64 qs, .int .i64 qh, .int .i64 qa, .int .i64 qn, .int .i64 fu, .int .i64 fs, .int .i64 fh, .int .i64 fa, .int .i64 fn, .slice (some ⟨g, 0, none⟩) n cb], .string tt, .bool tb]) ∧ Below w'.heap.size w' w'') := cT'
  have cA : Hid (∀ w' : World, Calls Tryz.prog 73 #[.agg #[.int .i64 st, .int .i64 sh, .int .i64 sd, .int .i64 sp, .int .i64 eu, .int .i64 es, .int .i64 eh, .int .i64 ea, .int .i64 en, .int .i64 fu, .int .i64 fs, .int .i64 fh, .int .i64 fa, .int .i64 fn, .slice A n cap], .iface 116 (.agg #[.int .i64 eu, .int .i64 es, .int .i64 eh, .int .i64 ea, .int .i64 en]), .string tt] w' fun e w'' => e = .returned (.int .i64 ya) ∧ Below w'.heap.size w' w'') := cA'
  clear cC' cT' cA' HV HX HR HVG
  obtain ⟨W0, hW0⟩ : ∃ W, ((w.alloc (.cells #[.int .i64 st, .int .i64 sh, .int .i64 sd, .int .i64 sp, .int .i64 eu, .int .i64 es, .int .i64 eh, .int .i64 ea, .int .i64 en, .int .i64 fu, .int .i64 fs, .int .i64 fh, .int .i64 fa, .int .i64 fn, .slice A n cap] 57)).alloc (.cells #[.int .i64 xu, .int .i64 xs, .int .i64 xh, .int .i64 xa, .int .i64 xn, .string xt, .bool xp] 43)).alloc (.cells #[.int .i64 0, .int .i64 0, .int .i64 0, .int .i64 0, .int .i64 0, .int .i64 0, .int .i64 0, .int .i64 0, .int .i64 0, .int .i64 0, .int .i64 0, .int .i64 0, .int .i64 0, .int .i64 0, .slice none 0 0] 57) = W := ⟨_, rfl⟩
  have K0 : Hid (Below w.heap.size w W0) := by rw [← hW0]; exact (((Below.refl _ w).alloc (Nat.le_refl _) _).alloc (by simp; try omega) _).alloc (by simp; try omega) _
  have Y0 : Hid (W0.heap[w.heap.size]? = some (.cells #[.int .i64 st, .int .i64 sh, .int .i64 sd, .int .i64 sp, .int .i64 eu, .int .i64 es, .int .i64 eh, .int .i64 ea, .int .i64 en, .int .i64 fu, .int .i64 fs, .int .i64 fh, .int .i64 fa, .int .i64 fn, .slice A n cap] 57)) := by rw [← hW0]; exact heap3a w _ _ _
  have X0 : Hid (W0.heap[w.heap.size + 1]? = some (.cells #[.int .i64 xu, .int .i64 xs, .int .i64 xh, .int .i64 xa, .int .i64 xn, .string xt, .bool xp] 43)) := by rw [← hW0]; exact heap3b w _ _ _
  have R0 : Hid (W0.heap[w.heap.size + 1 + 1]? = some (.cells #[.int .i64 0, .int .i64 0, .int .i64 0, .int .i64 0, .int .i64 0, .int .i64 0, .int .i64 0, .int .i64 0, .int .i64 0, .int .i64 0, .int .i64 0, .int .i64 0, .int .i64 0, .int .i64 0, .slice none 0 0] 57)) := by rw [← hW0]; exact heap3c w _ _ _
  have zW0 : W0.heap.size = w.heap.size + 3 := by rw [← hW0]; simp
  go_enter Tryz.func46, Tryz.ntmps46
  go_wp2
  clear hW0
  have hmf : ∀ (fn : Fn) (first cap : Array Value) (w : World), (Instr.makeFunc fn first cap).run Tryz.prog w = .ok (.func fn first cap) w := fun _ _ _ _ => rfl
  refine wp_region_ownp (W := W0) [] (fun _ => True) stays_true trivial [0, 0, 1, 0, 0, 5, 0, 1, 0, 0, 0, 0, 2, 3, 0, 0] [0, 4, 5, 1, 2, 3, 6, 7, 8, 9, 10, 11, 12, 13, 14, 15] (by kernel_rfl) (by kernel_rfl) (by kernel_rfl) ?_
  simp only [List.map_cons, List.map_nil, List.filterMap_cons, List.filterMap_nil, List.getD_cons_zero, List.getD_cons_succ, List.getElem?_cons_zero, List.getElem?_cons_succ]
  have rY : Hid (∀ q : In (plainEnv W0 []), q.w.heap[w.heap.size]? = some (.cells #[.int .i64 st, .int .i64 sh, .int .i64 sd, .int .i64 sp, .int .i64 eu, .int .i64 es, .int .i64 eh, .int .i64 ea, .int .i64 en, .int .i64 fu, .int .i64 fs, .int .i64 fh, .int .i64 fa, .int .i64 fn, .slice A n cap] 57)) := fun q => q.block Y0.out (by simp)
  have rX : Hid (∀ q : In (plainEnv W0 []), q.w.heap[w.heap.size + 1]? = some (.cells #[.int .i64 xu, .int .i64 xs, .int .i64 xh, .int .i64 xa, .int .i64 xn, .string xt, .bool xp] 43)) := fun q => q.block X0.out (by simp)
  refine wpO_quiet 2 rfl (by kernel_rfl) ?_
  simp only [List.take, List.drop]
  repeat (go_big_quiet_step (fail))
  refine wpQuiet_nil ?_
  refine wpO_read5 (.func (.method "loop.example/g00558/impl.takenIn") #[.iface 116 (.agg #[.int .i64 eu, .int .i64 es, .int .i64 eh, .int .i64 ea, .int .i64 en])] #[]) rfl stays_true (fun w' hC hF => by first | kernel_rfl | simp [go_sem]) ?_
  simp only [Act.put, List.setIfInBounds_toArray, List.set_cons_succ, List.set_cons_zero]
  refine wpO_load_row rfl 57 _ rfl (w.heap.size) rfl 57 _ (0, 0) _ rY.out Tryz.underlying57 rfl (by kernel_rfl) ?_
  simp only [Act.put, List.setIfInBounds_toArray, List.set_cons_succ, List.set_cons_zero]
  refine wpO_callx (f := 47) (args := #[.agg #[.int .i64 st, .int .i64 sh, .int .i64 sd, .int .i64 sp, .int .i64 eu, .int .i64 es, .int .i64 eh, .int .i64 ea, .int .i64 en, .int .i64 fu, .int .i64 fs, .int .i64 fh, .int .i64 fa, .int .i64 fn, .slice A n cap]]) (α := Nat × Nat) (fun z => .agg #[.int .i64 st, .int .i64 sh, .int .i64 sd, .int .i64 sp, .int .i64 eu, .int .i64 es, .int .i64 eh, .int .i64 ea, .int .i64 en, .int .i64 fu, .int .i64 fs, .int .i64 fh, .int .i64 fa, .int .i64 fn, .slice (some ⟨z.1, 0, none⟩) n z.2]) (fun z => [z.1]) (fun z w' => MadeE w' W0.heap.size 82 l z.1 z.2) rfl (fun w' => by simp [go_sem]) (fun z w1 w2 hw h b => h.below b) (fun G => ?_) (fun w' hw hF => ?_) (fun z hz => ?_)
  · obtain ⟨g, hg, hn'⟩ := fresh_above W0.heap.size G
    exact ⟨(g, 0), fun k hk => by simp at hk; subst hk; exact ⟨hg, hn'⟩⟩
  · exact (cC.out w' ((E.out.below (K0.out.trans ((kept_below hw).mono K0.out.size))).mono (Nat.le_trans K0.out.size (kept_below hw).size))).mono fun e w'' ⟨g, cb, he, m1, b1⟩ => ⟨(g, cb), he, m1.mono (kept_below hw).size, b1, fun k hk => by simp at hk; subst hk; exact m1.base⟩
  obtain ⟨g, cb⟩ := z
  have hgl : W0.heap.size ≤ g := (hz g (by simp)).1
  dsimp only
  simp only [Act.put, List.setIfInBounds_toArray, List.set_cons_succ, List.set_cons_zero]
  refine wpO_load_row rfl 43 _ rfl (w.heap.size + 1) rfl 43 _ (0, 0) _ rX.out Tryz.underlying43 rfl (by kernel_rfl) ?_
  simp only [Act.put, List.setIfInBounds_toArray, List.set_cons_succ, List.set_cons_zero]
  refine wpO_quiet 1 rfl (by kernel_rfl) ?_
  simp only [List.take, List.drop]
  repeat (go_big_quiet_step (fail))
  refine wpQuiet_nil ?_
  refine wpO_call (f := 163) (args := #[.agg #[.int .i64 eu, .int .i64 es, .int .i64 eh, .int .i64 ea, .int .i64 en], .agg #[.int .i64 st, .int .i64 sh, .int .i64 sd, .int .i64 sp, .int .i64 eu, .int .i64 es, .int .i64 eh, .int .i64 ea, .int .i64 en, .int .i64 fu, .int .i64 fs, .int .i64 fh, .int .i64 fa, .int .i64 fn, .slice (some ⟨g, 0, none⟩) n cb], .agg #[.int .i64 xu, .int .i64 xs, .int .i64 xh, .int .i64 xa, .int .i64 xn, .string xt, .bool xp]]) (.tuple #[.agg #[.int .i64 st, .int .i64 sh, .int .i64 sd, .int .i64 sp, .int .i64 qu, .int .i64 qs, .int .i64 qh, .int .i64 qa, .int .i64 qn, .int .i64 fu, .int .i64 fs, .int .i64 fh, .int .i64 fa, .int .i64 fn, .slice (some ⟨g, 0, none⟩) n cb], .string tt, .bool tb]) rfl (fun w' => by kernel_rfl) (fun w' hC _ => cT.out g cb w') ?_
  simp only [Act.put, List.setIfInBounds_toArray, List.set_cons_succ, List.set_cons_zero]
  refine wpO_quiet 4 rfl (by kernel_rfl) ?_
  simp only [List.take, List.drop]
  repeat (go_big_quiet_step (fail))
  refine wpQuiet_nil ?_
  refine wpO_alloc (.cells #[.int .i64 0, .int .i64 0, .int .i64 0, .int .i64 0, .int .i64 0, .int .i64 0, .int .i64 0, .int .i64 0, .int .i64 0, .int .i64 0, .int .i64 0, .int .i64 0, .int .i64 0, .int .i64 0, .slice none 0 0] 57) rfl (fun w' => by simp [go_sem]) fun gN mg hng => ?_
  have hgN : W0.heap.size ≤ gN := mg
  have hne : g ≠ gN := fun e => hng (by subst e; simp)
  simp only [Act.put, List.setIfInBounds_toArray, List.set_cons_succ, List.set_cons_zero]
  refine wpO_store (g := gN) (t := 57) (old := #[.int .i64 0, .int .i64 0, .int .i64 0, .int .i64 0, .int .i64 0, .int .i64 0, .int .i64 0, .int .i64 0, .int .i64 0, .int .i64 0, .int .i64 0, .int .i64 0, .int .i64 0, .int .i64 0, .slice none 0 0]) (fun w' => MadeE w' W0.heap.size 82 l g cb) #[.int .i64 st, .int .i64 sh, .int .i64 sd, .int .i64 sp, .int .i64 qu, .int .i64 qs, .int .i64 qh, .int .i64 qa, .int .i64 qn, .int .i64 fu, .int .i64 fs, .int .i64 fh, .int .i64 fa, .int .i64 fn, .slice (some ⟨g, 0, none⟩) n cb] rfl rfl rfl rfl (Env.own _ mg) (by kernel_rfl) rfl rfl (fun w' h => ⟨h.1.2, h.2⟩) (fun w1 w2 hw h b => h.below b) (fun w1 w2 hw h => h.heap (hw g h.base.2 hne)) ?_
  simp only [Act.put]
  refine wpO_quiet 2 rfl (by kernel_rfl) ?_
  simp only [List.take, List.drop]
  repeat (go_big_quiet_step (fail))
  refine wpQuiet_nil ?_
  refine wpO_nil ?_
  rintro w1 hb' ⟨hM, hG⟩
  have hb := kept_below hb'
  have ltN := blk_in hG
  have hgb := hM.base
  have Y1 := Lib.hid (blk_on hb Y0.out)
  have X1 := Lib.hid (blk_on hb X0.out)
  have R1 := Lib.hid (blk_on hb R0.out)
  have K1 := Lib.hid (K0.out.trans (hb.mono K0.out.size))
  clear hb hb' rY rX Y0 X0 R0 K0
  have N1 := Lib.hid hG
  have M0 : Hid (MadeE w1 w.heap.size 82 l g cb) := hM.mono (by omega)
  clear hG hM
  cases tb with
  | false =>
    have HE : Hid (y = 0) := by show _ = _; rw [← HY.out]; rfl
    go_wp2_with (refine wpList_store_row rfl 57 _ _ rfl (w.heap.size + 1 + 1) #[.int .i64 0, .int .i64 0, .int .i64 0, .int .i64 0, .int .i64 0, .int .i64 0, .int .i64 0, .int .i64 0, .int .i64 0, .int .i64 0, .int .i64 0, .int .i64 0, .int .i64 0, .int .i64 0, .slice none 0 0] rfl rfl 57 _ R1.out (by kernel_rfl) rfl (by simp [Value.oneCell']) ?_)
    exact row_ret2 (r := w.heap.size + 1 + 1) (cs := #[.int .i64 0, .int .i64 0, .int .i64 0, .int .i64 0, .int .i64 0, .int .i64 0, .int .i64 0, .int .i64 0, .int .i64 0, .int .i64 0, .int .i64 0, .int .i64 0, .int .i64 0, .int .i64 0, .slice none 0 0]) rfl rfl rfl (setRow_heap _ _ _ _ _ _ R1.out) Tryz.underlying57 rfl (by kernel_rfl) rfl ⟨.zero, none, 0, 0, by rw [HE.out]; rfl, by rw [HE.out]; exact (fun hc => absurd rfl hc), below_setRow K1.out (by omega) _⟩
  | true =>
    have HY2 : Hid (y = ya) := by show _ = _; rw [← HY.out, if_pos rfl]
    clear HY
    go_wp2_with (refine wpList_load_row rfl 57 _ rfl (w.heap.size) rfl 57 _ (0, 0) _ Y1.out Tryz.underlying57 rfl (by kernel_rfl) ?_)
    refine (cA.out _).mono ?_
    rintro e w2 ⟨rfl, hb⟩
    have M1 := Lib.hid (M0.out.below hb)
    clear M0
    have Y2 := Lib.hid (blk_on hb Y1.out)
    have X2 := Lib.hid (blk_on hb X1.out)
    have R2 := Lib.hid (blk_on hb R1.out)
    have N2 := Lib.hid (blk_on hb N1.out)
    have K2 := Lib.hid (K1.out.trans (hb.mono K1.out.size))
    clear hb Y1 X1 R1 N1 K1
    by_cases h60 : n = 60
    ·
      obtain rfl : ya = (0 : Int) := by rw [← HYA.out, if_pos h60]
      have HE := Lib.hid HY2.out
      clear HYA HY2 h60
      go_wp2_with (first | (refine wpList_load_row rfl 57 _ rfl (gN) rfl 57 _ (0, 0) _ N2.out Tryz.underlying57 rfl (by kernel_rfl) ?_) | (refine wpList_store_row rfl 57 _ _ rfl (w.heap.size + 1 + 1) #[.int .i64 st, .int .i64 sh, .int .i64 sd, .int .i64 sp, .int .i64 qu, .int .i64 qs, .int .i64 qh, .int .i64 qa, .int .i64 qn, .int .i64 fu, .int .i64 fs, .int .i64 fh, .int .i64 fa, .int .i64 fn, .slice (some ⟨g, 0, none⟩) n cb] rfl rfl 57 _ R2.out (by kernel_rfl) rfl (by simp [Value.oneCell']) ?_))
      exact row_ret2 (r := w.heap.size + 1 + 1) (cs := #[.int .i64 st, .int .i64 sh, .int .i64 sd, .int .i64 sp, .int .i64 qu, .int .i64 qs, .int .i64 qh, .int .i64 qa, .int .i64 qn, .int .i64 fu, .int .i64 fs, .int .i64 fh, .int .i64 fa, .int .i64 fn, .slice (some ⟨g, 0, none⟩) n cb]) rfl rfl rfl (setRow_heap _ _ _ _ _ _ R2.out) Tryz.underlying57 rfl (by kernel_rfl) rfl ⟨⟨st, sh, sd, sp, ⟨⟨qu, qs, qh, qa⟩, qn⟩, ⟨⟨fu, fs, fh, fa⟩, fn⟩⟩, some ⟨g, 0, none⟩, n, cb, by rw [HE.out]; rfl, by rw [HE.out]; exact (fun hc => absurd rfl hc), below_setRow K2.out (by omega) _⟩
    ·
      obtain rfl : ya = (1 : Int) := by rw [← HYA.out, if_neg h60]
      have HE := Lib.hid HY2.out
      clear HYA HY2 h60
      have e9 : (l ++ [(⟨tt, true⟩ : WordV)]).length = n + 1 := by rw [List.length_append, hln]; rfl
      have hbk := M1.out.base
      have hRw := blk_in R2.out
      have hKs := K2.out.size
      have hNw := blk_in N2.out
      obtain ⟨⟨a0, a1, a2, a3, a4, a5, a6, a7, a8, a9, a10, a11, a12, a13, a14⟩, _⟩ := blk15 N2.out
      go_upto_region 11 with (at_builtin; refine wpList_append_own _ rfl _ _ 55 rfl w.heap.size 82 i0 WordV.zero.val 2 by0 Tryz.underlying55 hi hz0 hz1 hz2 rfl (by decide) _ n (l.flatMap Cells.cells) rfl (by have h1 := M1.out.own; rw [hln] at h1; exact h1.alloc _) ⟨w2.heap.size, 0, none⟩ 1 1 ([(⟨tt, true⟩ : WordV)].flatMap Cells.cells) rfl rfl (cells_new w2 ([.string tt, .bool true]) _) flat_one (by unfold maxLen; omega) (Nat.le_trans (Nat.mul_le_mul (by omega : n + 1 ≤ 1048577) hby) (by decide)) (by simp; omega) ?_; intro v' w3 hown' hgrow hiff; have h9 := made_app (l := l) (l2 := [(⟨tt, true⟩ : WordV)]) (n := n) (m := 1) (gb := g) (cb := cb) hown' hln.symm rfl hiff; obtain ⟨gb', cb', rfl, hM'⟩ := h9; have HM' : Hid (MadeE w3 w.heap.size 82 (l ++ [(⟨tt, true⟩ : WordV)]) gb' cb') := hM'; have HGR := Lib.hid hgrow; clear hown' hgrow hM' hiff; have O9 : Hid (w3.heap[gN]? = some (.cells #[.int .i64 st, .int .i64 sh, .int .i64 sd, .int .i64 sp, .int .i64 qu, .int .i64 qs, .int .i64 qh, .int .i64 qa, .int .i64 qn, .int .i64 fu, .int .i64 fs, .int .i64 fh, .int .i64 fa, .int .i64 fn, .slice (some ⟨g, 0, none⟩) n cb] 57)) := blk_off HGR.out (alloc_blk N2.out) (show gN ≠ g by omega); obtain ⟨⟨b0, b1, b2, b3, b4, b5, b6, b7, b8, b9, b10, b11, b12, b13, b14⟩, bz0, bz1, bz2, bz3, bz4, bz5, bz6, bz7, bz8, bz9, bz10, bz11, bz12, bz13, bz14⟩ := blk15 O9.out; rw [e9])
      clear a0 a1 a2 a3 a4 a5 a6 a7 a8 a9 a10 a11 a12 a13 a14
      clear b0 b1 b2 b3 b4 b5 b6 b7 b8 b9 b10 b11 b12 b13 b14 bz0 bz1 bz2 bz3 bz4 bz5 bz6 bz7 bz8 bz9 bz10 bz11 bz12 bz13 bz14
      have R3 : Hid (w3.heap[w.heap.size + 1 + 1]? = some (.cells #[.int .i64 0, .int .i64 0, .int .i64 0, .int .i64 0, .int .i64 0, .int .i64 0, .int .i64 0, .int .i64 0, .int .i64 0, .int .i64 0, .int .i64 0, .int .i64 0, .int .i64 0, .int .i64 0, .slice none 0 0] 57)) := blk_off HGR.out (alloc_blk R2.out) (show w.heap.size + 1 + 1 ≠ g by omega)
      have K3 : Hid (Below w.heap.size w w3) := below_off (K2.out.alloc K2.out.size _) HGR.out ⟨show w.heap.size ≤ g by omega, by rw [World.size_alloc]; omega⟩
      have N3 := O9
      clear O9
      clear Y2 X2 R2 N2 K2 M1
      have hb9 := HM'.out.base
      have hnN := HM'.out.not_blk N3.out (by decide)
      have hnR := HM'.out.not_blk R3.out (by decide)
      obtain ⟨S3, qS3⟩ : ∃ W, setAll w3 gN 14 [.slice (some ⟨gb', 0, none⟩) (n + 1) cb'] = W := ⟨_, rfl⟩
      have hS3 : (w3.setCell ⟨gN, 14, none⟩ (.slice (some ⟨gb', 0, none⟩) (n + 1) cb')) = S3 := qS3
      have R4 : Hid (S3.heap[w.heap.size + 1 + 1]? = some (.cells #[.int .i64 0, .int .i64 0, .int .i64 0, .int .i64 0, .int .i64 0, .int .i64 0, .int .i64 0, .int .i64 0, .int .i64 0, .int .i64 0, .int .i64 0, .int .i64 0, .int .i64 0, .int .i64 0, .slice none 0 0] 57)) := by rw [← qS3]; exact setAll_away (by omega) _ _ R3.out
      have N4 : Hid (S3.heap[gN]? = some (.cells #[.int .i64 st, .int .i64 sh, .int .i64 sd, .int .i64 sp, .int .i64 qu, .int .i64 qs, .int .i64 qh, .int .i64 qa, .int .i64 qn, .int .i64 fu, .int .i64 fs, .int .i64 fh, .int .i64 fa, .int .i64 fn, .slice (some ⟨gb', 0, none⟩) (n + 1) cb'] 57)) := by
        rw [← qS3]
        refine (setAll_blk (w := w3) (g := gN) [.slice (some ⟨gb', 0, none⟩) (n + 1) cb'] 14 N3.out).trans ?_
        refine congrArg (fun z => some (Obj.cells z 57 (0, 0))) (Array.toList_inj.1 ?_)
        rw [overA_toList _ _ _ (by simp)]
        rfl
      have K4 : Hid (Below w.heap.size w S3) := by rw [← qS3]; exact setAll_below (g := gN) (by omega) [.slice (some ⟨gb', 0, none⟩) (n + 1) cb'] 14 K3.out
      have zS3 : w3.heap.size = S3.heap.size := by rw [← qS3]; exact (setAll_size [.slice (some ⟨gb', 0, none⟩) (n + 1) cb'] 14 _).symm
      clear qS3 R3 N3 K3
      have MF : Hid (MadeE S3 w.heap.size 82 (l ++ [(⟨tt, true⟩ : WordV)]) gb' cb') := by
        rw [← hS3]
        exact HM'.out.heap (setAll_off (g := gN) (by omega) [.slice (some ⟨gb', 0, none⟩) (n + 1) cb'] 14)
      try rw [hS3]
      clear hS3
      go_wp2_with (first | (refine wpList_load_row rfl 57 _ rfl (gN) rfl 57 _ (0, 0) _ N4.out Tryz.underlying57 rfl (by kernel_rfl) ?_) | (refine wpList_store_row rfl 57 _ _ rfl (w.heap.size + 1 + 1) #[.int .i64 st, .int .i64 sh, .int .i64 sd, .int .i64 sp, .int .i64 qu, .int .i64 qs, .int .i64 qh, .int .i64 qa, .int .i64 qn, .int .i64 fu, .int .i64 fs, .int .i64 fh, .int .i64 fa, .int .i64 fn, .slice (some ⟨gb', 0, none⟩) (n + 1) cb'] rfl rfl 57 _ R4.out (by kernel_rfl) rfl (by simp [Value.oneCell']) ?_))
      exact row_ret2 (r := w.heap.size + 1 + 1) (cs := #[.int .i64 st, .int .i64 sh, .int .i64 sd, .int .i64 sp, .int .i64 qu, .int .i64 qs, .int .i64 qh, .int .i64 qa, .int .i64 qn, .int .i64 fu, .int .i64 fs, .int .i64 fh, .int .i64 fa, .int .i64 fn, .slice (some ⟨gb', 0, none⟩) (n + 1) cb']) rfl rfl rfl (setRow_heap _ _ _ _ _ _ R4.out) Tryz.underlying57 rfl (by kernel_rfl) rfl ⟨⟨st, sh, sd, sp, ⟨⟨qu, qs, qh, qa⟩, qn⟩, ⟨⟨fu, fs, fh, fa⟩, fn⟩⟩, some ⟨gb', 0, none⟩, n + 1, cb', by rw [HE.out]; rfl, by rw [HE.out]; exact fun _ => ⟨rfl, .inr ⟨gb', rfl, e9.symm, MF.out.heap (setRow_other _ _ _ _ (by omega))⟩⟩, below_setRow K4.out (by omega) _⟩

set_option maxRecDepth 100000 in
set_option maxHeartbeats 16000000 in
theorem hearing_f (s : SeatV) (A : Option Addr) (n cap : Nat) (l : List WordV) (b : BoxV) (w : World) (h : EltsO w w.heap.size A n l) (hzc : A = none → cap = 0) (hn : n ≤ 1048576) (ht : Tab w) :
    Calls Tryz.prog 46 #[s.val A n cap, .iface 117 s.f.val, b.val] w fun e w' => ∃ (q : SeatV) (A' : Option Addr) (n' c' : Nat), e = .returned (.tuple #[q.val A' n' c', .int .i64 (codeF s n b)]) ∧ ((codeF s n b = 2 → q = { s with st := 2, e := .zero, f := takeR s.f b } ∧ LogOut w' w.heap.size A' n' c' l) ∧ (codeF s n b = 3 → q = { s with f := takeR s.f b } ∧ LogOut w' w.heap.size A' n' c' (l ++ [⟨takeT s.f b, false⟩]))) ∧ Below w.heap.size w w' := by
  obtain ⟨i0, by0, hi, hz0, hz1, hz2, hby⟩ := infoWordE
  have E := Lib.hid h
  have hln : l.length = n := h.1
  have cC' := fun (w' : World) (h' : EltsO w' w'.heap.size A n l) => copied_any s A n cap l w' h' hzc hn
  have cT' := fun (g cb : Nat) (w' : World) => takenIn_f s.f s (some ⟨g, 0, none⟩) n cb b w'
  have HTB := Lib.hid ht
  have cA' := fun (w' : World) hT => heardAs_f s A n cap s.f (takeT s.f b) hn w' hT
  clear h hzc ht
  obtain ⟨ya, hya⟩ : ∃ ya, (if s.st = 1 then (if isEnd (takeT s.f b) n then (2 : Int) else 0) else if n = 60 then 0 else 3) = ya := ⟨_, rfl⟩
  obtain ⟨y, hy⟩ : ∃ y, codeF s n b = y := ⟨_, rfl⟩
  have hy2 : (if takeB s.f b then (if s.st = 1 then (if isEnd (takeT s.f b) n then (2 : Int) else 0) else if n = 60 then 0 else 3) else 0) = y := hy
  rw [hya] at hy2 cA'
  rw [hy]
  have HY := Lib.hid hy2
  have HYA := Lib.hid hya
  clear hy hy2 hya
  obtain ⟨⟨⟨qu, qs, qh, qa⟩, qn⟩, hq⟩ : ∃ x, takeR s.f b = x := ⟨_, rfl⟩
  rw [hq] at cT' ⊢
  clear hq
  generalize takeT s.f b = tt at cT' cA' HYA ⊢
  generalize takeB s.f b = tb at cT' HY
  obtain ⟨⟨xu, xs, xh, xa⟩, xn, xt, xp⟩ := b
  obtain ⟨st, sh, sd, sp, ⟨⟨eu, es, eh, ea⟩, en⟩, ⟨⟨fu, fs, fh, fa⟩, fn⟩⟩ := s
  have HV : Hid (SeatV.val ⟨st, sh, sd, sp, ⟨⟨eu, es, eh, ea⟩, en⟩, ⟨⟨fu, fs, fh, fa⟩, fn⟩⟩ A n cap = .agg #[.int .i64 st, .int .i64 sh, .int .i64 sd, .int .i64 sp, .int .i64 eu, .int .i64 es, .int .i64 eh, .int .i64 ea, .int .i64 en, .int .i64 fu, .int .i64 fs, .int .i64 fh, .int .i64 fa, .int .i64 fn, .slice A n cap]) := rfl
  have HVG := fun (g cb : Nat) => Lib.hid (show SeatV.val ⟨st, sh, sd, sp, ⟨⟨eu, es, eh, ea⟩, en⟩, ⟨⟨fu, fs, fh, fa⟩, fn⟩⟩ (some ⟨g, 0, none⟩) n cb = .agg #[.int .i64 st, .int .i64 sh, .int .i64 sd, .int .i64 sp, .int .i64 eu, .int .i64 es, .int .i64 eh, .int .i64 ea, .int .i64 en, .int .i64 fu, .int .i64 fs, .int .i64 fh, .int .i64 fa, .int .i64 fn, .slice (some ⟨g, 0, none⟩) n cb] from rfl)
  have HX : Hid (BoxV.val ⟨⟨xu, xs, xh, xa⟩, xn, xt, xp⟩ = .agg #[.int .i64 xu, .int .i64 xs, .int .i64 xh, .int .i64 xa, .int .i64 xn, .string xt, .bool xp]) := rfl
  have HR : Hid (RowV.val ⟨⟨fu, fs, fh, fa⟩, fn⟩ = .agg #[.int .i64 fu, .int .i64 fs, .int .i64 fh, .int .i64 fa, .int .i64 fn]) := rfl
  dsimp only at cT' cA' HY HYA ⊢
  rw [HV.out, HR.out, HX.out]
  have cC : Hid (∀ w' : World, EltsO w' w'.heap.size A n l → Calls Tryz.prog 47 #[.agg #[.int .i64 st, .int .i64 sh, .int .i64 sd, .int .i64 sp, .int .i64 eu, .int .i64 es, .int .i64 eh, .int .i64 ea, .int .i64 en, .int .i64 fu, .int .i64 fs, .int .i64 fh, .int .i64 fa, .int .i64 fn, .slice A n cap]] w' fun e w'' => ∃ g cb, e = .returned (.agg #[.int .i64 st, .int .i64 sh, .int .i64 sd, .int .i64 sp, .int .i64 eu, .int .i64 es, .int .i64 eh, .int .i64 ea, .int .i64 en, .int .i64 fu, .int .i64 fs, .int .i64 fh, .int .i64 fa, .int .i64 fn, .slice (some ⟨g, 0, none⟩) n cb]) ∧ MadeE w'' w'.heap.size 82 l g cb ∧ Below w'.heap.size w' w'') := cC'
  have cT : Hid (∀ (g cb : Nat) (w' : World), Calls Tryz.prog 169 #[.agg #[.int .i64 fu, .int .i64 fs, .int .i64 fh, .int .i64 fa, .int .i64 fn], .agg #[.int .i64 st, .int .i64 sh, .int .i64 sd, .int .i64 sp, .int .i64 eu, .int .i64 es, .int .i64 eh, .int .i64 ea, .int .i64 en, .int .i64 fu, .int .i64 fs, .int .i64 fh, .int .i64 fa, .int .i64 fn, .slice (some ⟨g, 0, none⟩) n cb], .agg #[.int .i64 xu, .int .i64 xs, .int .i64 xh, .int .i64 xa, .int .i64 xn, .string xt, .bool xp]] w' fun e w'' => e = .returned (.tuple #[.agg #[.int .i64 st, .int .i64 sh, .int .i64 sd, .int .i64 sp, .int .i64 eu, .int .i64 es, .int .i64 eh, .int .i64 ea, .int .i64 en, .int .i64 qu, .int .i64 qs, .int .i64 qh, .int .i64 qa, .int .i64 qn, .slice (some ⟨g, 0, none⟩) n cb], .string tt, .bool tb]) ∧ Below w'.heap.size w' w'') := cT'
  have cA : Hid (∀ w' : World, Tab w' → Calls Tryz.prog 73 #[.agg #[.int .i64 st, .int .i64 sh, .int .i64 sd, .int .i64 sp, .int .i64 eu, .int .i64 es, .int .i64 eh, .int .i64 ea, .int .i64 en, .int .i64 fu, .int .i64 fs, .int .i64 fh, .int .i64 fa, .int .i64 fn, .slice A n cap], .iface 117 (.agg #[.int .i64 fu, .int .i64 fs, .int .i64 fh, .int .i64 fa, .int .i64 fn]), .string tt] w' fun e w'' => e = .returned (.int .i64 ya) ∧ Below w'.heap.size w' w'') := cA'
  clear cC' cT' cA' HV HX HR HVG
  obtain ⟨W0, hW0⟩ : ∃ W, ((w.alloc (.cells #[.int .i64 st, .int .i64 sh, .int .i64 sd, .int .i64 sp, .int .i64 eu, .int .i64 es, .int .i64 eh, .int .i64 ea, .int .i64 en, .int .i64 fu, .int .i64 fs, .int .i64 fh, .int .i64 fa, .int .i64 fn, .slice A n cap] 57)).alloc (.cells #[.int .i64 xu, .int .i64 xs, .int .i64 xh, .int .i64 xa, .int .i64 xn, .string xt, .bool xp] 43)).alloc (.cells #[.int .i64 0, .int .i64 0, .int .i64 0, .int .i64 0, .int .i64 0, .int .i64 0, .int .i64 0, .int .i64 0, .int .i64 0, .int .i64 0, .int .i64 0, .int .i64 0, .int .i64 0, .int .i64 0, .slice none 0 0] 57) = W := ⟨_, rfl⟩
  have K0 : Hid (Below w.heap.size w W0) := by rw [← hW0]; exact (((Below.refl _ w).alloc (Nat.le_refl _) _).alloc (by simp; try omega) _).alloc (by simp; try omega) _
  have Y0 : Hid (W0.heap[w.heap.size]? = some (.cells #[.int .i64 st, .int .i64 sh, .int .i64 sd, .int .i64 sp, .int .i64 eu, .int .i64 es, .int .i64 eh, .int .i64 ea, .int .i64 en, .int .i64 fu, .int .i64 fs, .int .i64 fh, .int .i64 fa, .int .i64 fn, .slice A n cap] 57)) := by rw [← hW0]; exact heap3a w _ _ _
  have X0 : Hid (W0.heap[w.heap.size + 1]? = some (.cells #[.int .i64 xu, .int .i64 xs, .int .i64 xh, .int .i64 xa, .int .i64 xn, .string xt, .bool xp] 43)) := by rw [← hW0]; exact heap3b w _ _ _
  have R0 : Hid (W0.heap[w.heap.size + 1 + 1]? = some (.cells #[.int .i64 0, .int .i64 0, .int .i64 0, .int .i64 0, .int .i64 0, .int .i64 0, .int .i64 0, .int .i64 0, .int .i64 0, .int .i64 0, .int .i64 0, .int .i64 0, .int .i64 0, .int .i64 0, .slice none 0 0] 57)) := by rw [← hW0]; exact heap3c w _ _ _
  have zW0 : W0.heap.size = w.heap.size + 3 := by rw [← hW0]; simp
  go_enter Tryz.func46, Tryz.ntmps46
  go_wp2
  clear hW0
  have hmf : ∀ (fn : Fn) (first cap : Array Value) (w : World), (Instr.makeFunc fn first cap).run Tryz.prog w = .ok (.func fn first cap) w := fun _ _ _ _ => rfl
  refine wp_region_ownp (W := W0) [] (fun _ => True) stays_true trivial [0, 0, 1, 0, 0, 5, 0, 1, 0, 0, 0, 0, 2, 3, 0, 0] [0, 4, 5, 1, 2, 3, 6, 7, 8, 9, 10, 11, 12, 13, 14, 15] (by kernel_rfl) (by kernel_rfl) (by kernel_rfl) ?_
  simp only [List.map_cons, List.map_nil, List.filterMap_cons, List.filterMap_nil, List.getD_cons_zero, List.getD_cons_succ, List.getElem?_cons_zero, List.getElem?_cons_succ]
  have rY : Hid (∀ q : In (plainEnv W0 []), q.w.heap[w.heap.size]? = some (.cells #[.int .i64 st, .int .i64 sh, .int .i64 sd, .int .i64 sp, .int .i64 eu, .int .i64 es, .int .i64 eh, .int .i64 ea, .int .i64 en, .int .i64 fu, .int .i64 fs, .int .i64 fh, .int .i64 fa, .int .i64 fn, .slice A n cap] 57)) := fun q => q.block Y0.out (by simp)
  have rX : Hid (∀ q : In (plainEnv W0 []), q.w.heap[w.heap.size + 1]? = some (.cells #[.int .i64 xu, .int .i64 xs, .int .i64 xh, .int .i64 xa, .int .i64 xn, .string xt, .bool xp] 43)) := fun q => q.block X0.out (by simp)
  refine wpO_quiet 2 rfl (by kernel_rfl) ?_
  simp only [List.take, List.drop]
  repeat (go_big_quiet_step (fail))
  refine wpQuiet_nil ?_
  refine wpO_read5 (.func (.method "loop.example/g00558/impl.takenIn") #[.iface 117 (.agg #[.int .i64 fu, .int .i64 fs, .int .i64 fh, .int .i64 fa, .int .i64 fn])] #[]) rfl stays_true (fun w' hC hF => by first | kernel_rfl | simp [go_sem]) ?_
  simp only [Act.put, List.setIfInBounds_toArray, List.set_cons_succ, List.set_cons_zero]
  refine wpO_load_row rfl 57 _ rfl (w.heap.size) rfl 57 _ (0, 0) _ rY.out Tryz.underlying57 rfl (by kernel_rfl) ?_
  simp only [Act.put, List.setIfInBounds_toArray, List.set_cons_succ, List.set_cons_zero]
  refine wpO_callx (f := 47) (args := #[.agg #[.int .i64 st, .int .i64 sh, .int .i64 sd, .int .i64 sp, .int .i64 eu, .int .i64 es, .int .i64 eh, .int .i64 ea, .int .i64 en, .int .i64 fu, .int .i64 fs, .int .i64 fh, .int .i64 fa, .int .i64 fn, .slice A n cap]]) (α := Nat × Nat) (fun z => .agg #[.int .i64 st, .int .i64 sh, .int .i64 sd, .int .i64 sp, .int .i64 eu, .int .i64 es, .int .i64 eh, .int .i64 ea, .int .i64 en, .int .i64 fu, .int .i64 fs, .int .i64 fh, .int .i64 fa, .int .i64 fn, .slice (some ⟨z.1, 0, none⟩) n z.2]) (fun z => [z.1]) (fun z w' => MadeE w' W0.heap.size 82 l z.1 z.2) rfl (fun w' => by simp [go_sem]) (fun z w1 w2 hw h b => h.below b) (fun G => ?_) (fun w' hw hF => ?_) (fun z hz => ?_)
  · obtain ⟨g, hg, hn'⟩ := fresh_above W0.heap.size G
    exact ⟨(g, 0), fun k hk => by simp at hk; subst hk; exact ⟨hg, hn'⟩⟩
  · exact (cC.out w' ((E.out.below (K0.out.trans ((kept_below hw).mono K0.out.size))).mono (Nat.le_trans K0.out.size (kept_below hw).size))).mono fun e w'' ⟨g, cb, he, m1, b1⟩ => ⟨(g, cb), he, m1.mono (kept_below hw).size, b1, fun k hk => by simp at hk; subst hk; exact m1.base⟩
  obtain ⟨g, cb⟩ := z
  have hgl : W0.heap.size ≤ g := (hz g (by simp)).1
  dsimp only
  simp only [Act.put, List.setIfInBounds_toArray, List.set_cons_succ, List.set_cons_zero]
  refine wpO_load_row rfl 43 _ rfl (w.heap.size + 1) rfl 43 _ (0, 0) _ rX.out Tryz.underlying43 rfl (by kernel_rfl) ?_
  simp only [Act.put, List.setIfInBounds_toArray, List.set_cons_succ, List.set_cons_zero]
  refine wpO_quiet 1 rfl (by kernel_rfl) ?_
  simp only [List.take, List.drop]
  repeat (go_big_quiet_step (fail))
  refine wpQuiet_nil ?_
  refine wpO_call (f := 169) (args := #[.agg #[.int .i64 fu, .int .i64 fs, .int .i64 fh, .int .i64 fa, .int .i64 fn], .agg #[.int .i64 st, .int .i64 sh, .int .i64 sd, .int .i64 sp, .int .i64 eu, .int .i64 es, .int .i64 eh, .int .i64 ea, .int .i64 en, .int .i64 fu, .int .i64 fs, .int .i64 fh, .int .i64 fa, .int .i64 fn, .slice (some ⟨g, 0, none⟩) n cb], .agg #[.int .i64 xu, .int .i64 xs, .int .i64 xh, .int .i64 xa, .int .i64 xn, .string xt, .bool xp]]) (.tuple #[.agg #[.int .i64 st, .int .i64 sh, .int .i64 sd, .int .i64 sp, .int .i64 eu, .int .i64 es, .int .i64 eh, .int .i64 ea, .int .i64 en, .int .i64 qu, .int .i64 qs, .int .i64 qh, .int .i64 qa, .int .i64 qn, .slice (some ⟨g, 0, none⟩) n cb], .string tt, .bool tb]) rfl (fun w' => by kernel_rfl) (fun w' hC _ => cT.out g cb w') ?_
  simp only [Act.put, List.setIfInBounds_toArray, List.set_cons_succ, List.set_cons_zero]
  refine wpO_quiet 4 rfl (by kernel_rfl) ?_
  simp only [List.take, List.drop]
  repeat (go_big_quiet_step (fail))
  refine wpQuiet_nil ?_
  refine wpO_alloc (.cells #[.int .i64 0, .int .i64 0, .int .i64 0, .int .i64 0, .int .i64 0, .int .i64 0, .int .i64 0, .int .i64 0, .int .i64 0, .int .i64 0, .int .i64 0, .int .i64 0, .int .i64 0, .int .i64 0, .slice none 0 0] 57) rfl (fun w' => by simp [go_sem]) fun gN mg hng => ?_
  have hgN : W0.heap.size ≤ gN := mg
  have hne : g ≠ gN := fun e => hng (by subst e; simp)
  simp only [Act.put, List.setIfInBounds_toArray, List.set_cons_succ, List.set_cons_zero]
  refine wpO_store (g := gN) (t := 57) (old := #[.int .i64 0, .int .i64 0, .int .i64 0, .int .i64 0, .int .i64 0, .int .i64 0, .int .i64 0, .int .i64 0, .int .i64 0, .int .i64 0, .int .i64 0, .int .i64 0, .int .i64 0, .int .i64 0, .slice none 0 0]) (fun w' => MadeE w' W0.heap.size 82 l g cb) #[.int .i64 st, .int .i64 sh, .int .i64 sd, .int .i64 sp, .int .i64 eu, .int .i64 es, .int .i64 eh, .int .i64 ea, .int .i64 en, .int .i64 qu, .int .i64 qs, .int .i64 qh, .int .i64 qa, .int .i64 qn, .slice (some ⟨g, 0, none⟩) n cb] rfl rfl rfl rfl (Env.own _ mg) (by kernel_rfl) rfl rfl (fun w' h => ⟨h.1.2, h.2⟩) (fun w1 w2 hw h b => h.below b) (fun w1 w2 hw h => h.heap (hw g h.base.2 hne)) ?_
  simp only [Act.put]
  refine wpO_quiet 2 rfl (by kernel_rfl) ?_
  simp only [List.take, List.drop]
  repeat (go_big_quiet_step (fail))
  refine wpQuiet_nil ?_
  refine wpO_nil ?_
  rintro w1 hb' ⟨hM, hG⟩
  have hb := kept_below hb'
  have ltN := blk_in hG
  have hgb := hM.base
  have Y1 := Lib.hid (blk_on hb Y0.out)
  have X1 := Lib.hid (blk_on hb X0.out)
  have R1 := Lib.hid (blk_on hb R0.out)
  have K1 := Lib.hid (K0.out.trans (hb.mono K0.out.size))
  clear hb hb' rY rX Y0 X0 R0 K0
  have N1 := Lib.hid hG
  have M0 : Hid (MadeE w1 w.heap.size 82 l g cb) := hM.mono (by omega)
  clear hG hM
  cases tb with
  | false =>
    have HE : Hid (y = 0) := by show _ = _; rw [← HY.out]; rfl
    go_wp2_with (refine wpList_store_row rfl 57 _ _ rfl (w.heap.size + 1 + 1) #[.int .i64 0, .int .i64 0, .int .i64 0, .int .i64 0, .int .i64 0, .int .i64 0, .int .i64 0, .int .i64 0, .int .i64 0, .int .i64 0, .int .i64 0, .int .i64 0, .int .i64 0, .int .i64 0, .slice none 0 0] rfl rfl 57 _ R1.out (by kernel_rfl) rfl (by simp [Value.oneCell']) ?_)
    exact row_ret2 (r := w.heap.size + 1 + 1) (cs := #[.int .i64 0, .int .i64 0, .int .i64 0, .int .i64 0, .int .i64 0, .int .i64 0, .int .i64 0, .int .i64 0, .int .i64 0, .int .i64 0, .int .i64 0, .int .i64 0, .int .i64 0, .int .i64 0, .slice none 0 0]) rfl rfl rfl (setRow_heap _ _ _ _ _ _ R1.out) Tryz.underlying57 rfl (by kernel_rfl) rfl ⟨.zero, none, 0, 0, by rw [HE.out]; rfl, by rw [HE.out]; exact ⟨fun hc => absurd hc (by decide), fun hc => absurd hc (by decide)⟩, below_setRow K1.out (by omega) _⟩
  | true =>
    have HY2 : Hid (y = ya) := by show _ = _; rw [← HY.out, if_pos rfl]
    clear HY
    go_wp2_with (refine wpList_load_row rfl 57 _ rfl (w.heap.size) rfl 57 _ (0, 0) _ Y1.out Tryz.underlying57 rfl (by kernel_rfl) ?_)
    refine (cA.out _ (HTB.out.on K1.out)).mono ?_
    rintro e w2 ⟨rfl, hb⟩
    have M1 := Lib.hid (M0.out.below hb)
    clear M0
    have Y2 := Lib.hid (blk_on hb Y1.out)
    have X2 := Lib.hid (blk_on hb X1.out)
    have R2 := Lib.hid (blk_on hb R1.out)
    have N2 := Lib.hid (blk_on hb N1.out)
    have K2 := Lib.hid (K1.out.trans (hb.mono K1.out.size))
    clear hb Y1 X1 R1 N1 K1
    by_cases hs : st = 1
    ·
      cases hi : isEnd tt n
      ·
        obtain rfl : ya = (0 : Int) := by rw [← HYA.out, if_pos hs, hi, if_neg Bool.false_ne_true]
        have HE := Lib.hid HY2.out
        clear HYA HY2 hs hi
        go_wp2_with (first | (refine wpList_load_row rfl 57 _ rfl (gN) rfl 57 _ (0, 0) _ N2.out Tryz.underlying57 rfl (by kernel_rfl) ?_) | (refine wpList_store_row rfl 57 _ _ rfl (w.heap.size + 1 + 1) #[.int .i64 st, .int .i64 sh, .int .i64 sd, .int .i64 sp, .int .i64 eu, .int .i64 es, .int .i64 eh, .int .i64 ea, .int .i64 en, .int .i64 qu, .int .i64 qs, .int .i64 qh, .int .i64 qa, .int .i64 qn, .slice (some ⟨g, 0, none⟩) n cb] rfl rfl 57 _ R2.out (by kernel_rfl) rfl (by simp [Value.oneCell']) ?_))
        exact row_ret2 (r := w.heap.size + 1 + 1) (cs := #[.int .i64 st, .int .i64 sh, .int .i64 sd, .int .i64 sp, .int .i64 eu, .int .i64 es, .int .i64 eh, .int .i64 ea, .int .i64 en, .int .i64 qu, .int .i64 qs, .int .i64 qh, .int .i64 qa, .int .i64 qn, .slice (some ⟨g, 0, none⟩) n cb]) rfl rfl rfl (setRow_heap _ _ _ _ _ _ R2.out) Tryz.underlying57 rfl (by kernel_rfl) rfl ⟨⟨st, sh, sd, sp, ⟨⟨eu, es, eh, ea⟩, en⟩, ⟨⟨qu, qs, qh, qa⟩, qn⟩⟩, some ⟨g, 0, none⟩, n, cb, by rw [HE.out]; rfl, by rw [HE.out]; exact ⟨fun hc => absurd hc (by decide), fun hc => absurd hc (by decide)⟩, below_setRow K2.out (by omega) _⟩
      ·
        obtain rfl : ya = (2 : Int) := by rw [← HYA.out, if_pos hs, hi, if_pos rfl]
        have HE := Lib.hid HY2.out
        clear HYA HY2 hs hi
        obtain ⟨⟨a0, a1, a2, a3, a4, a5, a6, a7, a8, a9, a10, a11, a12, a13, a14⟩, az0, az1, az2, az3, az4, az5, az6, az7, az8, az9, az10, az11, az12, az13, az14⟩ := blk15 N2.out
        obtain ⟨S3, qS3⟩ : ∃ W, setAll w2 gN 0 [.int .i64 2] = W := ⟨_, rfl⟩
        have hS3 : (w2.setCell ⟨gN, 0, none⟩ (.int .i64 2)) = S3 := qS3
        have Y3 : Hid (S3.heap[w.heap.size]? = some (.cells #[.int .i64 st, .int .i64 sh, .int .i64 sd, .int .i64 sp, .int .i64 eu, .int .i64 es, .int .i64 eh, .int .i64 ea, .int .i64 en, .int .i64 fu, .int .i64 fs, .int .i64 fh, .int .i64 fa, .int .i64 fn, .slice A n cap] 57)) := by rw [← qS3]; exact setAll_away (by omega) _ _ Y2.out
        have X3 : Hid (S3.heap[w.heap.size + 1]? = some (.cells #[.int .i64 xu, .int .i64 xs, .int .i64 xh, .int .i64 xa, .int .i64 xn, .string xt, .bool xp] 43)) := by rw [← qS3]; exact setAll_away (by omega) _ _ X2.out
        have R3 : Hid (S3.heap[w.heap.size + 1 + 1]? = some (.cells #[.int .i64 0, .int .i64 0, .int .i64 0, .int .i64 0, .int .i64 0, .int .i64 0, .int .i64 0, .int .i64 0, .int .i64 0, .int .i64 0, .int .i64 0, .int .i64 0, .int .i64 0, .int .i64 0, .slice none 0 0] 57)) := by rw [← qS3]; exact setAll_away (by omega) _ _ R2.out
        have N3 : Hid (S3.heap[gN]? = some (.cells #[.int .i64 2, .int .i64 sh, .int .i64 sd, .int .i64 sp, .int .i64 eu, .int .i64 es, .int .i64 eh, .int .i64 ea, .int .i64 en, .int .i64 qu, .int .i64 qs, .int .i64 qh, .int .i64 qa, .int .i64 qn, .slice (some ⟨g, 0, none⟩) n cb] 57)) := by
          rw [← qS3]
          refine (setAll_blk (w := w2) (g := gN) [.int .i64 2] 0 N2.out).trans ?_
          refine congrArg (fun z => some (Obj.cells z 57 (0, 0))) (Array.toList_inj.1 ?_)
          rw [overA_toList _ _ _ (by simp)]
          rfl
        have K3 : Hid (Below w.heap.size w S3) := by rw [← qS3]; exact setAll_below (g := gN) (by omega) [.int .i64 2] 0 K2.out
        have zS3 : w2.heap.size = S3.heap.size := by rw [← qS3]; exact (setAll_size [.int .i64 2] 0 _).symm
        clear qS3 Y2 X2 R2 N2 K2
        have M2 : Hid (MadeE S3 w.heap.size 82 l g cb) := by rw [← hS3]; exact M1.out.heap (setAll_off (g := gN) (by omega) [.int .i64 2] 0)
        clear M1
        obtain ⟨⟨b0, b1, b2, b3, b4, b5, b6, b7, b8, b9, b10, b11, b12, b13, b14⟩, bz0, bz1, bz2, bz3, bz4, bz5, bz6, bz7, bz8, bz9, bz10, bz11, bz12, bz13, bz14⟩ := blk15 N3.out
        obtain ⟨S4, qS4⟩ : ∃ W, setAll S3 gN 4 [.int .i64 0, .int .i64 0, .int .i64 0, .int .i64 0, .int .i64 0] = W := ⟨_, rfl⟩
        have hS4 : (((((S3.setCell ⟨gN, 4, none⟩ (.int .i64 0)).setCell ⟨gN, 5, none⟩ (.int .i64 0)).setCell ⟨gN, 6, none⟩ (.int .i64 0)).setCell ⟨gN, 7, none⟩ (.int .i64 0)).setCell ⟨gN, 8, none⟩ (.int .i64 0)) = S4 := qS4
        have Y4 : Hid (S4.heap[w.heap.size]? = some (.cells #[.int .i64 st, .int .i64 sh, .int .i64 sd, .int .i64 sp, .int .i64 eu, .int .i64 es, .int .i64 eh, .int .i64 ea, .int .i64 en, .int .i64 fu, .int .i64 fs, .int .i64 fh, .int .i64 fa, .int .i64 fn, .slice A n cap] 57)) := by rw [← qS4]; exact setAll_away (by omega) _ _ Y3.out
        have X4 : Hid (S4.heap[w.heap.size + 1]? = some (.cells #[.int .i64 xu, .int .i64 xs, .int .i64 xh, .int .i64 xa, .int .i64 xn, .string xt, .bool xp] 43)) := by rw [← qS4]; exact setAll_away (by omega) _ _ X3.out
        have R4 : Hid (S4.heap[w.heap.size + 1 + 1]? = some (.cells #[.int .i64 0, .int .i64 0, .int .i64 0, .int .i64 0, .int .i64 0, .int .i64 0, .int .i64 0, .int .i64 0, .int .i64 0, .int .i64 0, .int .i64 0, .int .i64 0, .int .i64 0, .int .i64 0, .slice none 0 0] 57)) := by rw [← qS4]; exact setAll_away (by omega) _ _ R3.out
        have N4 : Hid (S4.heap[gN]? = some (.cells #[.int .i64 2, .int .i64 sh, .int .i64 sd, .int .i64 sp, .int .i64 0, .int .i64 0, .int .i64 0, .int .i64 0, .int .i64 0, .int .i64 qu, .int .i64 qs, .int .i64 qh, .int .i64 qa, .int .i64 qn, .slice (some ⟨g, 0, none⟩) n cb] 57)) := by
          rw [← qS4]
          refine (setAll_blk (w := S3) (g := gN) [.int .i64 0, .int .i64 0, .int .i64 0, .int .i64 0, .int .i64 0] 4 N3.out).trans ?_
          refine congrArg (fun z => some (Obj.cells z 57 (0, 0))) (Array.toList_inj.1 ?_)
          rw [overA_toList _ _ _ (by simp)]
          rfl
        have K4 : Hid (Below w.heap.size w S4) := by rw [← qS4]; exact setAll_below (g := gN) (by omega) [.int .i64 0, .int .i64 0, .int .i64 0, .int .i64 0, .int .i64 0] 4 K3.out
        have zS4 : S3.heap.size = S4.heap.size := by rw [← qS4]; exact (setAll_size [.int .i64 0, .int .i64 0, .int .i64 0, .int .i64 0, .int .i64 0] 4 _).symm
        clear qS4 Y3 X3 R3 N3 K3
        have M3 : Hid (MadeE S4 w.heap.size 82 l g cb) := by rw [← hS4]; exact M2.out.heap (setAll_off (g := gN) (by omega) [.int .i64 0, .int .i64 0, .int .i64 0, .int .i64 0, .int .i64 0] 4)
        clear M2
        go_upto_region 11 with fail
        clear a0 a1 a2 a3 a4 a5 a6 a7 a8 a9 a10 a11 a12 a13 a14 az0 az1 az2 az3 az4 az5 az6 az7 az8 az9 az10 az11 az12 az13 az14
        clear b0 b1 b2 b3 b4 b5 b6 b7 b8 b9 b10 b11 b12 b13 b14 bz0 bz1 bz2 bz3 bz4 bz5 bz6 bz7 bz8 bz9 bz10 bz11 bz12 bz13 bz14
        try rw [hS4]
        clear hS3 hS4
        go_wp2_with (first | (refine wpList_load_row rfl 57 _ rfl (gN) rfl 57 _ (0, 0) _ N4.out Tryz.underlying57 rfl (by kernel_rfl) ?_) | (refine wpList_store_row rfl 57 _ _ rfl (w.heap.size + 1 + 1) #[.int .i64 2, .int .i64 sh, .int .i64 sd, .int .i64 sp, .int .i64 0, .int .i64 0, .int .i64 0, .int .i64 0, .int .i64 0, .int .i64 qu, .int .i64 qs, .int .i64 qh, .int .i64 qa, .int .i64 qn, .slice (some ⟨g, 0, none⟩) n cb] rfl rfl 57 _ R4.out (by kernel_rfl) rfl (by simp [Value.oneCell']) ?_))
        exact row_ret2 (r := w.heap.size + 1 + 1) (cs := #[.int .i64 2, .int .i64 sh, .int .i64 sd, .int .i64 sp, .int .i64 0, .int .i64 0, .int .i64 0, .int .i64 0, .int .i64 0, .int .i64 qu, .int .i64 qs, .int .i64 qh, .int .i64 qa, .int .i64 qn, .slice (some ⟨g, 0, none⟩) n cb]) rfl rfl rfl (setRow_heap _ _ _ _ _ _ R4.out) Tryz.underlying57 rfl (by kernel_rfl) rfl ⟨⟨2, sh, sd, sp, ⟨⟨0, 0, 0, 0⟩, 0⟩, ⟨⟨qu, qs, qh, qa⟩, qn⟩⟩, some ⟨g, 0, none⟩, n, cb, by rw [HE.out]; rfl, by rw [HE.out]; exact ⟨fun _ => ⟨rfl, .inr ⟨g, rfl, hln.symm, M3.out.heap (setRow_other _ _ _ _ (by omega))⟩⟩, fun hc => absurd hc (by decide)⟩, below_setRow K4.out (by omega) _⟩
    ·
      by_cases h60 : n = 60
      ·
        obtain rfl : ya = (0 : Int) := by rw [← HYA.out, if_neg hs, if_pos h60]
        have HE := Lib.hid HY2.out
        clear HYA HY2 h60 hs
        go_wp2_with (first | (refine wpList_load_row rfl 57 _ rfl (gN) rfl 57 _ (0, 0) _ N2.out Tryz.underlying57 rfl (by kernel_rfl) ?_) | (refine wpList_store_row rfl 57 _ _ rfl (w.heap.size + 1 + 1) #[.int .i64 st, .int .i64 sh, .int .i64 sd, .int .i64 sp, .int .i64 eu, .int .i64 es, .int .i64 eh, .int .i64 ea, .int .i64 en, .int .i64 qu, .int .i64 qs, .int .i64 qh, .int .i64 qa, .int .i64 qn, .slice (some ⟨g, 0, none⟩) n cb] rfl rfl 57 _ R2.out (by kernel_rfl) rfl (by simp [Value.oneCell']) ?_))
        exact row_ret2 (r := w.heap.size + 1 + 1) (cs := #[.int .i64 st, .int .i64 sh, .int .i64 sd, .int .i64 sp, .int .i64 eu, .int .i64 es, .int .i64 eh, .int .i64 ea, .int .i64 en, .int .i64 qu, .int .i64 qs, .int .i64 qh, .int .i64 qa, .int .i64 qn, .slice (some ⟨g, 0, none⟩) n cb]) rfl rfl rfl (setRow_heap _ _ _ _ _ _ R2.out) Tryz.underlying57 rfl (by kernel_rfl) rfl ⟨⟨st, sh, sd, sp, ⟨⟨eu, es, eh, ea⟩, en⟩, ⟨⟨qu, qs, qh, qa⟩, qn⟩⟩, some ⟨g, 0, none⟩, n, cb, by rw [HE.out]; rfl, by rw [HE.out]; exact ⟨fun hc => absurd hc (by decide), fun hc => absurd hc (by decide)⟩, below_setRow K2.out (by omega) _⟩
      ·
        obtain rfl : ya = (3 : Int) := by rw [← HYA.out, if_neg hs, if_neg h60]
        have HE := Lib.hid HY2.out
        clear HYA HY2 h60 hs
        have e9 : (l ++ [(⟨tt, false⟩ : WordV)]).length = n + 1 := by rw [List.length_append, hln]; rfl
        have hbk := M1.out.base
        have hRw := blk_in R2.out
        have hKs := K2.out.size
        have hNw := blk_in N2.out
        obtain ⟨⟨a0, a1, a2, a3, a4, a5, a6, a7, a8, a9, a10, a11, a12, a13, a14⟩, _⟩ := blk15 N2.out
        go_upto_region 11 with (at_builtin; refine wpList_append_own _ rfl _ _ 55 rfl w.heap.size 82 i0 WordV.zero.val 2 by0 Tryz.underlying55 hi hz0 hz1 hz2 rfl (by decide) _ n (l.flatMap Cells.cells) rfl (by have h1 := M1.out.own; rw [hln] at h1; exact h1.alloc _) ⟨w2.heap.size, 0, none⟩ 1 1 ([(⟨tt, false⟩ : WordV)].flatMap Cells.cells) rfl rfl (cells_new w2 ([.string tt, .bool false]) _) flat_one (by unfold maxLen; omega) (Nat.le_trans (Nat.mul_le_mul (by omega : n + 1 ≤ 1048577) hby) (by decide)) (by simp; omega) ?_; intro v' w3 hown' hgrow hiff; have h9 := made_app (l := l) (l2 := [(⟨tt, false⟩ : WordV)]) (n := n) (m := 1) (gb := g) (cb := cb) hown' hln.symm rfl hiff; obtain ⟨gb', cb', rfl, hM'⟩ := h9; have HM' : Hid (MadeE w3 w.heap.size 82 (l ++ [(⟨tt, false⟩ : WordV)]) gb' cb') := hM'; have HGR := Lib.hid hgrow; clear hown' hgrow hM' hiff; have O9 : Hid (w3.heap[gN]? = some (.cells #[.int .i64 st, .int .i64 sh, .int .i64 sd, .int .i64 sp, .int .i64 eu, .int .i64 es, .int .i64 eh, .int .i64 ea, .int .i64 en, .int .i64 qu, .int .i64 qs, .int .i64 qh, .int .i64 qa, .int .i64 qn, .slice (some ⟨g, 0, none⟩) n cb] 57)) := blk_off HGR.out (alloc_blk N2.out) (show gN ≠ g by omega); obtain ⟨⟨b0, b1, b2, b3, b4, b5, b6, b7, b8, b9, b10, b11, b12, b13, b14⟩, bz0, bz1, bz2, bz3, bz4, bz5, bz6, bz7, bz8, bz9, bz10, bz11, bz12, bz13, bz14⟩ := blk15 O9.out; rw [e9])
        clear a0 a1 a2 a3 a4 a5 a6 a7 a8 a9 a10 a11 a12 a13 a14
        clear b0 b1 b2 b3 b4 b5 b6 b7 b8 b9 b10 b11 b12 b13 b14 bz0 bz1 bz2 bz3 bz4 bz5 bz6 bz7 bz8 bz9 bz10 bz11 bz12 bz13 bz14
        have R3 : Hid (w3.heap[w.heap.size + 1 + 1]? = some (.cells #[.int .i64 0, .int .i64 0, .int .i64 0, .int .i64 0, .int .i64 0, .int .i64 0, .int .i64 0, .int .i64 0, .int .i64 0, .int .i64 0, .int .i64 0, .int .i64 0, .int .i64 0, .int .i64 0, .slice none 0 0] 57)) := blk_off HGR.out (alloc_blk R2.out) (show w.heap.size + 1 + 1 ≠ g by omega)
        have K3 : Hid (Below w.heap.size w w3) := below_off (K2.out.alloc K2.out.size _) HGR.out ⟨show w.heap.size ≤ g by omega, by rw [World.size_alloc]; omega⟩
        have N3 := O9
        clear O9
        clear Y2 X2 R2 N2 K2 M1
        have hb9 := HM'.out.base
        have hnN := HM'.out.not_blk N3.out (by decide)
        have hnR := HM'.out.not_blk R3.out (by decide)
        obtain ⟨S3, qS3⟩ : ∃ W, setAll w3 gN 14 [.slice (some ⟨gb', 0, none⟩) (n + 1) cb'] = W := ⟨_, rfl⟩
        have hS3 : (w3.setCell ⟨gN, 14, none⟩ (.slice (some ⟨gb', 0, none⟩) (n + 1) cb')) = S3 := qS3
        have R4 : Hid (S3.heap[w.heap.size + 1 + 1]? = some (.cells #[.int .i64 0, .int .i64 0, .int .i64 0, .int .i64 0, .int .i64 0, .int .i64 0, .int .i64 0, .int .i64 0, .int .i64 0, .int .i64 0, .int .i64 0, .int .i64 0, .int .i64 0, .int .i64 0, .slice none 0 0] 57)) := by rw [← qS3]; exact setAll_away (by omega) _ _ R3.out
        have N4 : Hid (S3.heap[gN]? = some (.cells #[.int .i64 st, .int .i64 sh, .int .i64 sd, .int .i64 sp, .int .i64 eu, .int .i64 es, .int .i64 eh, .int .i64 ea, .int .i64 en, .int .i64 qu, .int .i64 qs, .int .i64 qh, .int .i64 qa, .int .i64 qn, .slice (some ⟨gb', 0, none⟩) (n + 1) cb'] 57)) := by
          rw [← qS3]
          refine (setAll_blk (w := w3) (g := gN) [.slice (some ⟨gb', 0, none⟩) (n + 1) cb'] 14 N3.out).trans ?_
          refine congrArg (fun z => some (Obj.cells z 57 (0, 0))) (Array.toList_inj.1 ?_)
          rw [overA_toList _ _ _ (by simp)]
          rfl
        have K4 : Hid (Below w.heap.size w S3) := by rw [← qS3]; exact setAll_below (g := gN) (by omega) [.slice (some ⟨gb', 0, none⟩) (n + 1) cb'] 14 K3.out
        have zS3 : w3.heap.size = S3.heap.size := by rw [← qS3]; exact (setAll_size [.slice (some ⟨gb', 0, none⟩) (n + 1) cb'] 14 _).symm
        clear qS3 R3 N3 K3
        have MF : Hid (MadeE S3 w.heap.size 82 (l ++ [(⟨tt, false⟩ : WordV)]) gb' cb') := by
          rw [← hS3]
          exact HM'.out.heap (setAll_off (g := gN) (by omega) [.slice (some ⟨gb', 0, none⟩) (n + 1) cb'] 14)
        try rw [hS3]
        clear hS3
        go_wp2_with (first | (refine wpList_load_row rfl 57 _ rfl (gN) rfl 57 _ (0, 0) _ N4.out Tryz.underlying57 rfl (by kernel_rfl) ?_) | (refine wpList_store_row rfl 57 _ _ rfl (w.heap.size + 1 + 1) #[.int .i64 st, .int .i64 sh, .int .i64 sd, .int .i64 sp, .int .i64 eu, .int .i64 es, .int .i64 eh, .int .i64 ea, .int .i64 en, .int .i64 qu, .int .i64 qs, .int .i64 qh, .int .i64 qa, .int .i64 qn, .slice (some ⟨gb', 0, none⟩) (n + 1) cb'] rfl rfl 57 _ R4.out (by kernel_rfl) rfl (by simp [Value.oneCell']) ?_))
        exact row_ret2 (r := w.heap.size + 1 + 1) (cs := #[.int .i64 st, .int .i64 sh, .int .i64 sd, .int .i64 sp, .int .i64 eu, .int .i64 es, .int .i64 eh, .int .i64 ea, .int .i64 en, .int .i64 qu, .int .i64 qs, .int .i64 qh, .int .i64 qa, .int .i64 qn, .slice (some ⟨gb', 0, none⟩) (n + 1) cb']) rfl rfl rfl (setRow_heap _ _ _ _ _ _ R4.out) Tryz.underlying57 rfl (by kernel_rfl) rfl ⟨⟨st, sh, sd, sp, ⟨⟨eu, es, eh, ea⟩, en⟩, ⟨⟨qu, qs, qh, qa⟩, qn⟩⟩, some ⟨gb', 0, none⟩, n + 1, cb', by rw [HE.out]; rfl, by rw [HE.out]; exact ⟨fun hc => absurd hc (by decide), fun _ => ⟨rfl, .inr ⟨gb', rfl, e9.symm, MF.out.heap (setRow_other _ _ _ _ (by omega))⟩⟩⟩, below_setRow K4.out (by omega) _⟩

theorem LogOut.to {w w' : World} {B B' n cap : Nat} {A : Option Addr} {l : List WordV} (h : LogOut w B A n cap l) (hB : B' ≤ B) (he : ∀ g, B ≤ g → g < w.heap.size → w'.heap[g]? = w.heap[g]?) : LogOut w' B' A n cap l := by
  rcases h with h | ⟨g, rfl, hn, hm⟩
  · exact .inl h
  · exact .inr ⟨g, rfl, hn, (hm.heap (he g hm.base.1 hm.base.2)).mono hB⟩
/-- The same of a right seat, as what is heard. -/
theorem hearing_e' (s : SeatV) (A : Option Addr) (n cap : Nat) (l : List WordV) (b : BoxV) (w : World) (h : EltsO w w.heap.size A n l) (hzc : A = none → cap = 0) (hn : n ≤ 1048576) (hok : seatOkB s n = true) :
    Calls Tryz.prog 46 #[s.val A n cap, .iface 116 s.e.val, b.val] w fun e w' => ∃ (q : SeatV) (A' : Option Addr) (n' c' : Nat), e = .returned (.tuple #[q.val A' n' c', .int .i64 (codeE s n b)]) ∧ (codeE s n b ≠ 0 → hearC s n b = codeE s n b ∧ hearS s n b = q ∧ LogOut w' w.heap.size A' n' c' (hearL s l b)) ∧ Below w.heap.size w w' :=
  (hearing_e s A n cap l b w h hzc hn).mono fun _ _ ⟨q, A', n', c', he, hw, hb⟩ => ⟨q, A', n', c', he, fun hc => by
    obtain ⟨h1, h2, h3⟩ := hear_first (l := l) h.1 hok hc
    obtain ⟨h4, h5⟩ := hw hc
    exact ⟨h1, by rw [h2, h4], by rw [h3]; exact h5⟩, hb⟩
theorem hearing_f' (s : SeatV) (A : Option Addr) (n cap : Nat) (l : List WordV) (b : BoxV) (w : World) (h : EltsO w w.heap.size A n l) (hzc : A = none → cap = 0) (hn : n ≤ 1048576) (hok : seatOkB s n = true) (ht : Tab w) :
    Calls Tryz.prog 46 #[s.val A n cap, .iface 117 s.f.val, b.val] w fun e w' => ∃ (q : SeatV) (A' : Option Addr) (n' c' : Nat), e = .returned (.tuple #[q.val A' n' c', .int .i64 (codeF s n b)]) ∧ (codeF s n b ≠ 0 → hearC s n b = codeF s n b ∧ hearS s n b = q ∧ LogOut w' w.heap.size A' n' c' (hearL s l b)) ∧ Below w.heap.size w w' :=
  (hearing_f s A n cap l b w h hzc hn ht).mono fun _ _ ⟨q, A', n', c', he, hw, hb⟩ => ⟨q, A', n', c', he, fun hf => by
    obtain ⟨h1, h2⟩ := hear_next (l := l) h.1 hok hf
    rcases h2 with ⟨e2, h2, h3⟩ | ⟨e2, h2, h3⟩
    · obtain ⟨h4, h5⟩ := hw.1 e2
      exact ⟨h1, by rw [h2, h4], by rw [h3]; exact h5⟩
    · obtain ⟨h4, h5⟩ := hw.2 e2
      exact ⟨h1, by rw [h2, h4], by rw [h3]; exact h5⟩, hb⟩


set_option maxRecDepth 100000 in
set_option maxHeartbeats 16000000 in
theorem Hears_impl (s : SeatV) (A : Option Addr) (n cap : Nat) (l : List WordV) (b : BoxV) (w : World) (h : EltsO w w.heap.size A n l) (hzc : A = none → cap = 0) (hn : n ≤ 1048576) (ht : Tab w) :
    Calls Tryz.prog 24 #[s.val A n cap, b.val] w fun e w' => ∃ A' n' c', e = .returned (.tuple #[(hearS s n b).val A' n' c', .int .i64 (hearC s n b)]) ∧ LogOut w' w.heap.size A' n' c' (hearL s l b) ∧ Below w.heap.size w w' := by
  have E := Lib.hid h
  have hln : l.length = n := h.1
  have HTB := Lib.hid ht
  have H0' : seatOkB s n = false → hearS s n b = .zero ∧ hearC s n b = 0 ∧ hearL s l b = [] := fun e => ⟨by rw [hearS, e]; rfl, by rw [hearC, e]; rfl, by rw [hearL, hln, e]; rfl⟩
  have HN' := fun (hok : seatOkB s n = true) h1 h2 => hear_none (b := b) (l := l) hln hok h1 h2
  have cE' := fun (hok : seatOkB s n = true) (w' : World) h' => hearing_e' s A n cap l b w' h' hzc hn hok
  have cF' := fun (hok : seatOkB s n = true) (w' : World) h' hT => hearing_f' s A n cap l b w' h' hzc hn hok hT
  have cC' := fun (w' : World) (h' : EltsO w' w'.heap.size A n l) => copied_any s A n cap l w' h' hzc hn
  have cS' := fun (w' : World) => SeatOk_impl0 s A n cap w'
  have cR' := fun (w' : World) => rows_any s A n cap w'
  clear h hzc ht
  generalize codeE s n b = yE at HN' cE'
  generalize codeF s n b = yF at HN' cF'
  obtain ⟨hs, hhs⟩ : ∃ x, hearS s n b = x := ⟨_, rfl⟩
  obtain ⟨hc, hhc⟩ : ∃ x, hearC s n b = x := ⟨_, rfl⟩
  obtain ⟨ol, hol⟩ : ∃ x, hearL s l b = x := ⟨_, rfl⟩
  rw [hhs, hhc, hol] at H0' HN' ⊢
  rw [hhs, hhc, hol] at cE' cF'
  clear hhs hhc hol
  generalize seatOkB s n = zs at H0' HN' cE' cF' cS'
  obtain ⟨⟨xu, xs, xh, xa⟩, xn, xt, xp⟩ := b
  obtain ⟨st, sh, sd, sp, ⟨⟨eu, es, eh, ea⟩, en⟩, ⟨⟨fu, fs, fh, fa⟩, fn⟩⟩ := s
  have HV : Hid (SeatV.val ⟨st, sh, sd, sp, ⟨⟨eu, es, eh, ea⟩, en⟩, ⟨⟨fu, fs, fh, fa⟩, fn⟩⟩ A n cap = .agg #[.int .i64 st, .int .i64 sh, .int .i64 sd, .int .i64 sp, .int .i64 eu, .int .i64 es, .int .i64 eh, .int .i64 ea, .int .i64 en, .int .i64 fu, .int .i64 fs, .int .i64 fh, .int .i64 fa, .int .i64 fn, .slice A n cap]) := rfl
  have HX : Hid (BoxV.val ⟨⟨xu, xs, xh, xa⟩, xn, xt, xp⟩ = .agg #[.int .i64 xu, .int .i64 xs, .int .i64 xh, .int .i64 xa, .int .i64 xn, .string xt, .bool xp]) := rfl
  have HRE : Hid (RowV.val ⟨⟨eu, es, eh, ea⟩, en⟩ = .agg #[.int .i64 eu, .int .i64 es, .int .i64 eh, .int .i64 ea, .int .i64 en]) := rfl
  have HRF : Hid (RowV.val ⟨⟨fu, fs, fh, fa⟩, fn⟩ = .agg #[.int .i64 fu, .int .i64 fs, .int .i64 fh, .int .i64 fa, .int .i64 fn]) := rfl
  dsimp only at cE' cF' cR'
  rw [HV.out, HX.out]
  simp only [HV.out, HX.out, HRE.out, HRF.out] at cE' cF' cC' cS' cR'
  have H0 := Lib.hid H0'
  have HN := Lib.hid HN'
  have cEE := Lib.hid cE'
  have cFF := Lib.hid cF'
  have cCC := Lib.hid cC'
  have cSS := Lib.hid cS'
  have cRR := Lib.hid cR'
  clear H0' HN' cE' cF' cC' cS' cR' HV HX HRE HRF
  obtain ⟨W0, hW0⟩ : ∃ W, ((w.alloc (.cells #[.int .i64 st, .int .i64 sh, .int .i64 sd, .int .i64 sp, .int .i64 eu, .int .i64 es, .int .i64 eh, .int .i64 ea, .int .i64 en, .int .i64 fu, .int .i64 fs, .int .i64 fh, .int .i64 fa, .int .i64 fn, .slice A n cap] 57)).alloc (.cells #[.int .i64 xu, .int .i64 xs, .int .i64 xh, .int .i64 xa, .int .i64 xn, .string xt, .bool xp] 43)).alloc (.cells #[.int .i64 0, .int .i64 0, .int .i64 0, .int .i64 0, .int .i64 0, .int .i64 0, .int .i64 0, .int .i64 0, .int .i64 0, .int .i64 0, .int .i64 0, .int .i64 0, .int .i64 0, .int .i64 0, .slice none 0 0] 57) = W := ⟨_, rfl⟩
  have K0 : Hid (Below w.heap.size w W0) := by rw [← hW0]; exact (((Below.refl _ w).alloc (Nat.le_refl _) _).alloc (by simp; try omega) _).alloc (by simp; try omega) _
  have Y0 : Hid (W0.heap[w.heap.size]? = some (.cells #[.int .i64 st, .int .i64 sh, .int .i64 sd, .int .i64 sp, .int .i64 eu, .int .i64 es, .int .i64 eh, .int .i64 ea, .int .i64 en, .int .i64 fu, .int .i64 fs, .int .i64 fh, .int .i64 fa, .int .i64 fn, .slice A n cap] 57)) := by rw [← hW0]; exact heap3a w _ _ _
  have X0 : Hid (W0.heap[w.heap.size + 1]? = some (.cells #[.int .i64 xu, .int .i64 xs, .int .i64 xh, .int .i64 xa, .int .i64 xn, .string xt, .bool xp] 43)) := by rw [← hW0]; exact heap3b w _ _ _
  have R0 : Hid (W0.heap[w.heap.size + 1 + 1]? = some (.cells #[.int .i64 0, .int .i64 0, .int .i64 0, .int .i64 0, .int .i64 0, .int .i64 0, .int .i64 0, .int .i64 0, .int .i64 0, .int .i64 0, .int .i64 0, .int .i64 0, .int .i64 0, .int .i64 0, .slice none 0 0] 57)) := by rw [← hW0]; exact heap3c w _ _ _
  have zW0 : W0.heap.size = w.heap.size + 3 := by rw [← hW0]; simp
  go_enter Tryz.func24, Tryz.ntmps24
  go_wp2_with (refine wpList_load_row rfl 57 _ rfl (w.heap.size) rfl 57 _ (0, 0) _ Y0.out Tryz.underlying57 rfl (by kernel_rfl) ?_)
  clear hW0
  refine (cSS.out _).mono ?_
  rintro e w1 ⟨rfl, hb⟩
  have Y1 := Lib.hid (blk_on hb Y0.out)
  have X1 := Lib.hid (blk_on hb X0.out)
  have R1 := Lib.hid (blk_on hb R0.out)
  have K1 := Lib.hid (K0.out.trans (hb.mono K0.out.size))
  clear hb Y0 X0 R0 K0
  cases zs with
  | false =>
    obtain ⟨rfl, rfl, rfl⟩ := H0.out rfl
    go_wp2_with (refine wpList_store_row rfl 57 _ _ rfl (w.heap.size + 1 + 1) #[.int .i64 0, .int .i64 0, .int .i64 0, .int .i64 0, .int .i64 0, .int .i64 0, .int .i64 0, .int .i64 0, .int .i64 0, .int .i64 0, .int .i64 0, .int .i64 0, .int .i64 0, .int .i64 0, .slice none 0 0] rfl rfl 57 _ R1.out (by kernel_rfl) rfl (by simp [Value.oneCell']) ?_)
    exact row_ret2 (r := w.heap.size + 1 + 1) (cs := #[.int .i64 0, .int .i64 0, .int .i64 0, .int .i64 0, .int .i64 0, .int .i64 0, .int .i64 0, .int .i64 0, .int .i64 0, .int .i64 0, .int .i64 0, .int .i64 0, .int .i64 0, .int .i64 0, .slice none 0 0]) rfl rfl rfl (setRow_heap _ _ _ _ _ _ R1.out) Tryz.underlying57 rfl (by kernel_rfl) rfl ⟨none, 0, 0, rfl, .inl ⟨rfl, rfl, rfl, rfl⟩, below_setRow K1.out (by omega) _⟩
  | true =>
    have HN1 := Lib.hid (HN.out rfl)
    have cE := Lib.hid (cEE.out rfl)
    have cF := Lib.hid (cFF.out rfl)
    clear HN cEE cFF H0 cSS
    go_wp2_with (refine wpList_load_row rfl 57 _ rfl (w.heap.size) rfl 57 _ (0, 0) _ Y1.out Tryz.underlying57 rfl (by kernel_rfl) ?_)
    refine (cRR.out _).mono ?_
    rintro e w2 ⟨gr, rfl, hgr, hG, hb⟩
    have hgr0 : w.heap.size ≤ gr := Nat.le_trans K1.out.size hgr
    have ltG := blk_in hG
    have hRw := blk_in R1.out
    have hgR : w.heap.size + 1 + 1 < gr := by omega
    have Y2 := Lib.hid (blk_on hb Y1.out)
    have X2 := Lib.hid (blk_on hb X1.out)
    have R2 := Lib.hid (blk_on hb R1.out)
    have K2 := Lib.hid (K1.out.trans (hb.mono K1.out.size))
    clear hb cRR Y1 X1 R1 K1
    have G0 := Lib.hid hG
    clear hG
    go_wp2
    go_loopw [17] (fun i wr => ((i = .int .i64 0) ∨ (i = .int .i64 1 ∧ yE = 0) ∨ (i = .int .i64 2 ∧ yE = 0 ∧ yF = 0)) ∧ wr.heap[w.heap.size]? = some (.cells #[.int .i64 st, .int .i64 sh, .int .i64 sd, .int .i64 sp, .int .i64 eu, .int .i64 es, .int .i64 eh, .int .i64 ea, .int .i64 en, .int .i64 fu, .int .i64 fs, .int .i64 fh, .int .i64 fa, .int .i64 fn, .slice A n cap] 57) ∧ wr.heap[w.heap.size + 1]? = some (.cells #[.int .i64 xu, .int .i64 xs, .int .i64 xh, .int .i64 xa, .int .i64 xn, .string xt, .bool xp] 43) ∧ wr.heap[w.heap.size + 1 + 1]? = some (.cells #[.int .i64 0, .int .i64 0, .int .i64 0, .int .i64 0, .int .i64 0, .int .i64 0, .int .i64 0, .int .i64 0, .int .i64 0, .int .i64 0, .int .i64 0, .int .i64 0, .int .i64 0, .int .i64 0, .slice none 0 0] 57) ∧ wr.heap[gr]? = some (.cells #[.iface 116 (.agg #[.int .i64 eu, .int .i64 es, .int .i64 eh, .int .i64 ea, .int .i64 en]), .iface 117 (.agg #[.int .i64 fu, .int .i64 fs, .int .i64 fh, .int .i64 fa, .int .i64 fn])] 92) ∧ Below w.heap.size w wr) (fun i _ => 2 - (intOf i).toNat)
    case atStart => exact ⟨.inl rfl, Y2.out, X2.out, R2.out, G0.out, K2.out⟩
    case round =>
      obtain ⟨hi, hY, hX, hR, hG, hK⟩ := hrel
      have Y9 := Lib.hid hY
      have X9 := Lib.hid hX
      have R9 := Lib.hid hR
      have G9 := Lib.hid hG
      have K9 := Lib.hid hK
      clear hY hX hR hG hK Y2 X2 R2 G0 K2
      rcases hi with rfl | ⟨rfl, hyE⟩ | ⟨rfl, hyE, hyF⟩
      ·
        have gc := blk_cell G9.out 0
        have gn := blk_in R9.out
        have gs := K9.out.size
        have ltG9 := blk_in G9.out
        go_wp2_with (first | (refine wpList_load_row rfl 57 _ rfl (w.heap.size) rfl 57 _ (0, 0) _ Y9.out Tryz.underlying57 rfl (by kernel_rfl) ?_) | (refine wpList_load_row rfl 43 _ rfl (w.heap.size + 1) rfl 43 _ (0, 0) _ X9.out Tryz.underlying43 rfl (by kernel_rfl) ?_))
        clear gc
        refine (cE.out _ ((E.out.below K9.out).mono K9.out.size)).mono ?_
        rintro e w21 ⟨⟨vst, vsh, vsd, vsp, ⟨⟨veu, ves, veh, vea⟩, ven⟩, ⟨⟨vfu, vfs, vfh, vfa⟩, vfn⟩⟩, A', n', c', rfl, hL, hb⟩
        have HQ : Hid (SeatV.val ⟨vst, vsh, vsd, vsp, ⟨⟨veu, ves, veh, vea⟩, ven⟩, ⟨⟨vfu, vfs, vfh, vfa⟩, vfn⟩⟩ A' n' c' = .agg #[.int .i64 vst, .int .i64 vsh, .int .i64 vsd, .int .i64 vsp, .int .i64 veu, .int .i64 ves, .int .i64 veh, .int .i64 vea, .int .i64 ven, .int .i64 vfu, .int .i64 vfs, .int .i64 vfh, .int .i64 vfa, .int .i64 vfn, .slice A' n' c']) := rfl
        rw [HQ.out]
        have hsw := hb.size
        have Y10 := Lib.hid (blk_on hb Y9.out)
        have X10 := Lib.hid (blk_on hb X9.out)
        have R10 := Lib.hid (blk_on hb R9.out)
        have G10 := Lib.hid (blk_on hb G9.out)
        have K10 := Lib.hid (K9.out.trans (hb.mono K9.out.size))
        clear hb Y9 X9 R9 G9 K9
        obtain ⟨V22, hV22⟩ : ∃ V, w21.alloc (.cells #[.int .i64 0, .int .i64 0, .int .i64 0, .int .i64 0, .int .i64 0, .int .i64 0, .int .i64 0, .int .i64 0, .int .i64 0, .int .i64 0, .int .i64 0, .int .i64 0, .int .i64 0, .int .i64 0, .slice none 0 0] 57) = V := ⟨_, rfl⟩
        have ltV22Y : w.heap.size < w21.heap.size := blk_in Y10.out
        have ltV22X : w.heap.size + 1 < w21.heap.size := blk_in X10.out
        have ltV22R : w.heap.size + 1 + 1 < w21.heap.size := blk_in R10.out
        have ltV22G : gr < w21.heap.size := blk_in G10.out
        have Y11 : Hid (V22.heap[w.heap.size]? = some (.cells #[.int .i64 st, .int .i64 sh, .int .i64 sd, .int .i64 sp, .int .i64 eu, .int .i64 es, .int .i64 eh, .int .i64 ea, .int .i64 en, .int .i64 fu, .int .i64 fs, .int .i64 fh, .int .i64 fa, .int .i64 fn, .slice A n cap] 57)) := by rw [← hV22]; exact alloc_blk Y10.out
        have X11 : Hid (V22.heap[w.heap.size + 1]? = some (.cells #[.int .i64 xu, .int .i64 xs, .int .i64 xh, .int .i64 xa, .int .i64 xn, .string xt, .bool xp] 43)) := by rw [← hV22]; exact alloc_blk X10.out
        have R11 : Hid (V22.heap[w.heap.size + 1 + 1]? = some (.cells #[.int .i64 0, .int .i64 0, .int .i64 0, .int .i64 0, .int .i64 0, .int .i64 0, .int .i64 0, .int .i64 0, .int .i64 0, .int .i64 0, .int .i64 0, .int .i64 0, .int .i64 0, .int .i64 0, .slice none 0 0] 57)) := by rw [← hV22]; exact alloc_blk R10.out
        have G11 : Hid (V22.heap[gr]? = some (.cells #[.iface 116 (.agg #[.int .i64 eu, .int .i64 es, .int .i64 eh, .int .i64 ea, .int .i64 en]), .iface 117 (.agg #[.int .i64 fu, .int .i64 fs, .int .i64 fh, .int .i64 fa, .int .i64 fn])] 92)) := by rw [← hV22]; exact alloc_blk G10.out
        have hb : Below w21.heap.size w21 V22 := by rw [← hV22]; exact (Below.refl _ w21).alloc (Nat.le_refl _) _
        have K11 := Lib.hid (K10.out.trans (hb.mono K10.out.size))
        have N11 : Hid (V22.heap[w21.heap.size]? = some (.cells #[.int .i64 0, .int .i64 0, .int .i64 0, .int .i64 0, .int .i64 0, .int .i64 0, .int .i64 0, .int .i64 0, .int .i64 0, .int .i64 0, .int .i64 0, .int .i64 0, .int .i64 0, .int .i64 0, .slice none 0 0] 57)) := by rw [← hV22]; exact heap1 w21 _
        have lbV22 : w.heap.size ≤ w21.heap.size := K10.out.size
        clear hb Y10 X10 R10 G10 K10
        have hal : ∀ g, g < w21.heap.size → V22.heap[g]? = w21.heap[g]? := fun g hg => by rw [← hV22]; exact ((Below.refl _ w21).alloc (Nat.le_refl _) _).block g hg
        have Y12 : Hid ((V22.setRow w21.heap.size #[.int .i64 vst, .int .i64 vsh, .int .i64 vsd, .int .i64 vsp, .int .i64 veu, .int .i64 ves, .int .i64 veh, .int .i64 vea, .int .i64 ven, .int .i64 vfu, .int .i64 vfs, .int .i64 vfh, .int .i64 vfa, .int .i64 vfn, .slice A' n' c']).heap[w.heap.size]? = some (.cells #[.int .i64 st, .int .i64 sh, .int .i64 sd, .int .i64 sp, .int .i64 eu, .int .i64 es, .int .i64 eh, .int .i64 ea, .int .i64 en, .int .i64 fu, .int .i64 fs, .int .i64 fh, .int .i64 fa, .int .i64 fn, .slice A n cap] 57)) := (setRow_other _ _ _ _ (by omega)).trans Y11.out
        have X12 : Hid ((V22.setRow w21.heap.size #[.int .i64 vst, .int .i64 vsh, .int .i64 vsd, .int .i64 vsp, .int .i64 veu, .int .i64 ves, .int .i64 veh, .int .i64 vea, .int .i64 ven, .int .i64 vfu, .int .i64 vfs, .int .i64 vfh, .int .i64 vfa, .int .i64 vfn, .slice A' n' c']).heap[w.heap.size + 1]? = some (.cells #[.int .i64 xu, .int .i64 xs, .int .i64 xh, .int .i64 xa, .int .i64 xn, .string xt, .bool xp] 43)) := (setRow_other _ _ _ _ (by omega)).trans X11.out
        have R12 : Hid ((V22.setRow w21.heap.size #[.int .i64 vst, .int .i64 vsh, .int .i64 vsd, .int .i64 vsp, .int .i64 veu, .int .i64 ves, .int .i64 veh, .int .i64 vea, .int .i64 ven, .int .i64 vfu, .int .i64 vfs, .int .i64 vfh, .int .i64 vfa, .int .i64 vfn, .slice A' n' c']).heap[w.heap.size + 1 + 1]? = some (.cells #[.int .i64 0, .int .i64 0, .int .i64 0, .int .i64 0, .int .i64 0, .int .i64 0, .int .i64 0, .int .i64 0, .int .i64 0, .int .i64 0, .int .i64 0, .int .i64 0, .int .i64 0, .int .i64 0, .slice none 0 0] 57)) := (setRow_other _ _ _ _ (by omega)).trans R11.out
        have G12 : Hid ((V22.setRow w21.heap.size #[.int .i64 vst, .int .i64 vsh, .int .i64 vsd, .int .i64 vsp, .int .i64 veu, .int .i64 ves, .int .i64 veh, .int .i64 vea, .int .i64 ven, .int .i64 vfu, .int .i64 vfs, .int .i64 vfh, .int .i64 vfa, .int .i64 vfn, .slice A' n' c']).heap[gr]? = some (.cells #[.iface 116 (.agg #[.int .i64 eu, .int .i64 es, .int .i64 eh, .int .i64 ea, .int .i64 en]), .iface 117 (.agg #[.int .i64 fu, .int .i64 fs, .int .i64 fh, .int .i64 fa, .int .i64 fn])] 92)) := (setRow_other _ _ _ _ (by omega)).trans G11.out
        have N12 : Hid ((V22.setRow w21.heap.size #[.int .i64 vst, .int .i64 vsh, .int .i64 vsd, .int .i64 vsp, .int .i64 veu, .int .i64 ves, .int .i64 veh, .int .i64 vea, .int .i64 ven, .int .i64 vfu, .int .i64 vfs, .int .i64 vfh, .int .i64 vfa, .int .i64 vfn, .slice A' n' c']).heap[w21.heap.size]? = some (.cells #[.int .i64 vst, .int .i64 vsh, .int .i64 vsd, .int .i64 vsp, .int .i64 veu, .int .i64 ves, .int .i64 veh, .int .i64 vea, .int .i64 ven, .int .i64 vfu, .int .i64 vfs, .int .i64 vfh, .int .i64 vfa, .int .i64 vfn, .slice A' n' c'] 57)) := setRow_heap _ _ _ _ _ _ N11.out
        have K12 : Hid (Below w.heap.size w (V22.setRow w21.heap.size #[.int .i64 vst, .int .i64 vsh, .int .i64 vsd, .int .i64 vsp, .int .i64 veu, .int .i64 ves, .int .i64 veh, .int .i64 vea, .int .i64 ven, .int .i64 vfu, .int .i64 vfs, .int .i64 vfh, .int .i64 vfa, .int .i64 vfn, .slice A' n' c'])) := below_setRow K11.out (by omega) _
        have HL : Hid (yE ≠ 0 → hc = yE ∧ hs = ⟨vst, vsh, vsd, vsp, ⟨⟨veu, ves, veh, vea⟩, ven⟩, ⟨⟨vfu, vfs, vfh, vfa⟩, vfn⟩⟩ ∧ LogOut (V22.setRow w21.heap.size #[.int .i64 vst, .int .i64 vsh, .int .i64 vsd, .int .i64 vsp, .int .i64 veu, .int .i64 ves, .int .i64 veh, .int .i64 vea, .int .i64 ven, .int .i64 vfu, .int .i64 vfs, .int .i64 vfh, .int .i64 vfa, .int .i64 vfn, .slice A' n' c']) wr.heap.size A' n' c' ol) := fun hq => ⟨(hL hq).1, (hL hq).2.1, (hL hq).2.2.to (Nat.le_refl _) (fun g h1 h2 => (setRow_other _ _ _ _ (by omega)).trans (hal g h2))⟩
        clear hL hal
        by_cases hy0 : yE = 0
        ·
          have hy1 : (yE != 0) = false := by rw [hy0]; rfl
          have HY0 := Lib.hid hy0
          clear hy0 HL HQ
          go_wp2_with (refine wpList_store_row rfl 57 _ _ rfl (w21.heap.size) #[.int .i64 vst, .int .i64 vsh, .int .i64 vsd, .int .i64 vsp, .int .i64 veu, .int .i64 ves, .int .i64 veh, .int .i64 vea, .int .i64 ven, .int .i64 vfu, .int .i64 vfs, .int .i64 vfh, .int .i64 vfa, .int .i64 vfn, .slice A' n' c'] rfl rfl 57 _ N11.out (by kernel_rfl) rfl (by simp [Value.oneCell']) ?_)
          go_roundw
          case rel => exact ⟨.inr (.inl ⟨by go_num, HY0.out⟩), Y12.out, X12.out, R12.out, G12.out, K12.out⟩
          case measure => simp [intOf]
        ·
          have hy1 : (yE != 0) = true := by simpa using hy0
          have HL1 := Lib.hid (HL.out hy0)
          clear HL hy0

          go_wp2_with (first | (refine wpList_store_row rfl 57 _ _ rfl (w21.heap.size) #[.int .i64 vst, .int .i64 vsh, .int .i64 vsd, .int .i64 vsp, .int .i64 veu, .int .i64 ves, .int .i64 veh, .int .i64 vea, .int .i64 ven, .int .i64 vfu, .int .i64 vfs, .int .i64 vfh, .int .i64 vfa, .int .i64 vfn, .slice A' n' c'] rfl rfl 57 _ N11.out (by kernel_rfl) rfl (by simp [Value.oneCell']) ?_) | (refine wpList_load_row rfl 57 _ rfl (w21.heap.size) rfl 57 _ (0, 0) _ N12.out Tryz.underlying57 rfl (by kernel_rfl) ?_) | (refine wpList_store_row rfl 57 _ _ rfl (w.heap.size + 1 + 1) #[.int .i64 vst, .int .i64 vsh, .int .i64 vsd, .int .i64 vsp, .int .i64 veu, .int .i64 ves, .int .i64 veh, .int .i64 vea, .int .i64 ven, .int .i64 vfu, .int .i64 vfs, .int .i64 vfh, .int .i64 vfa, .int .i64 vfn, .slice A' n' c'] rfl rfl 57 _ R12.out (by kernel_rfl) rfl (by simp [Value.oneCell']) ?_))
          exact row_ret2 (r := w.heap.size + 1 + 1) (cs := #[.int .i64 vst, .int .i64 vsh, .int .i64 vsd, .int .i64 vsp, .int .i64 veu, .int .i64 ves, .int .i64 veh, .int .i64 vea, .int .i64 ven, .int .i64 vfu, .int .i64 vfs, .int .i64 vfh, .int .i64 vfa, .int .i64 vfn, .slice A' n' c']) rfl rfl rfl (setRow_heap _ _ _ _ _ _ R12.out) Tryz.underlying57 rfl (by kernel_rfl) rfl ⟨A', n', c', by rw [HL1.out.1, HL1.out.2.1]; rfl, HL1.out.2.2.to gs (fun g h1 h2 => setRow_other _ _ _ _ (by omega)), below_setRow K12.out (by omega) _⟩
      ·
        have gc := blk_cell G9.out 1
        have gn := blk_in R9.out
        have gs := K9.out.size
        have ltG9 := blk_in G9.out
        go_wp2_with (first | (refine wpList_load_row rfl 57 _ rfl (w.heap.size) rfl 57 _ (0, 0) _ Y9.out Tryz.underlying57 rfl (by kernel_rfl) ?_) | (refine wpList_load_row rfl 43 _ rfl (w.heap.size + 1) rfl 43 _ (0, 0) _ X9.out Tryz.underlying43 rfl (by kernel_rfl) ?_))
        clear gc
        refine (cF.out _ ((E.out.below K9.out).mono K9.out.size) (HTB.out.on K9.out)).mono ?_
        rintro e w21 ⟨⟨vst, vsh, vsd, vsp, ⟨⟨veu, ves, veh, vea⟩, ven⟩, ⟨⟨vfu, vfs, vfh, vfa⟩, vfn⟩⟩, A', n', c', rfl, hL, hb⟩
        have HQ : Hid (SeatV.val ⟨vst, vsh, vsd, vsp, ⟨⟨veu, ves, veh, vea⟩, ven⟩, ⟨⟨vfu, vfs, vfh, vfa⟩, vfn⟩⟩ A' n' c' = .agg #[.int .i64 vst, .int .i64 vsh, .int .i64 vsd, .int .i64 vsp, .int .i64 veu, .int .i64 ves, .int .i64 veh, .int .i64 vea, .int .i64 ven, .int .i64 vfu, .int .i64 vfs, .int .i64 vfh, .int .i64 vfa, .int .i64 vfn, .slice A' n' c']) := rfl
        rw [HQ.out]
        have hsw := hb.size
        have Y10 := Lib.hid (blk_on hb Y9.out)
        have X10 := Lib.hid (blk_on hb X9.out)
        have R10 := Lib.hid (blk_on hb R9.out)
        have G10 := Lib.hid (blk_on hb G9.out)
        have K10 := Lib.hid (K9.out.trans (hb.mono K9.out.size))
        clear hb Y9 X9 R9 G9 K9
        obtain ⟨V22, hV22⟩ : ∃ V, w21.alloc (.cells #[.int .i64 0, .int .i64 0, .int .i64 0, .int .i64 0, .int .i64 0, .int .i64 0, .int .i64 0, .int .i64 0, .int .i64 0, .int .i64 0, .int .i64 0, .int .i64 0, .int .i64 0, .int .i64 0, .slice none 0 0] 57) = V := ⟨_, rfl⟩
        have ltV22Y : w.heap.size < w21.heap.size := blk_in Y10.out
        have ltV22X : w.heap.size + 1 < w21.heap.size := blk_in X10.out
        have ltV22R : w.heap.size + 1 + 1 < w21.heap.size := blk_in R10.out
        have ltV22G : gr < w21.heap.size := blk_in G10.out
        have Y11 : Hid (V22.heap[w.heap.size]? = some (.cells #[.int .i64 st, .int .i64 sh, .int .i64 sd, .int .i64 sp, .int .i64 eu, .int .i64 es, .int .i64 eh, .int .i64 ea, .int .i64 en, .int .i64 fu, .int .i64 fs, .int .i64 fh, .int .i64 fa, .int .i64 fn, .slice A n cap] 57)) := by rw [← hV22]; exact alloc_blk Y10.out
        have X11 : Hid (V22.heap[w.heap.size + 1]? = some (.cells #[.int .i64 xu, .int .i64 xs, .int .i64 xh, .int .i64 xa, .int .i64 xn, .string xt, .bool xp] 43)) := by rw [← hV22]; exact alloc_blk X10.out
        have R11 : Hid (V22.heap[w.heap.size + 1 + 1]? = some (.cells #[.int .i64 0, .int .i64 0, .int .i64 0, .int .i64 0, .int .i64 0, .int .i64 0, .int .i64 0, .int .i64 0, .int .i64 0, .int .i64 0, .int .i64 0, .int .i64 0, .int .i64 0, .int .i64 0, .slice none 0 0] 57)) := by rw [← hV22]; exact alloc_blk R10.out
        have G11 : Hid (V22.heap[gr]? = some (.cells #[.iface 116 (.agg #[.int .i64 eu, .int .i64 es, .int .i64 eh, .int .i64 ea, .int .i64 en]), .iface 117 (.agg #[.int .i64 fu, .int .i64 fs, .int .i64 fh, .int .i64 fa, .int .i64 fn])] 92)) := by rw [← hV22]; exact alloc_blk G10.out
        have hb : Below w21.heap.size w21 V22 := by rw [← hV22]; exact (Below.refl _ w21).alloc (Nat.le_refl _) _
        have K11 := Lib.hid (K10.out.trans (hb.mono K10.out.size))
        have N11 : Hid (V22.heap[w21.heap.size]? = some (.cells #[.int .i64 0, .int .i64 0, .int .i64 0, .int .i64 0, .int .i64 0, .int .i64 0, .int .i64 0, .int .i64 0, .int .i64 0, .int .i64 0, .int .i64 0, .int .i64 0, .int .i64 0, .int .i64 0, .slice none 0 0] 57)) := by rw [← hV22]; exact heap1 w21 _
        have lbV22 : w.heap.size ≤ w21.heap.size := K10.out.size
        clear hb Y10 X10 R10 G10 K10
        have hal : ∀ g, g < w21.heap.size → V22.heap[g]? = w21.heap[g]? := fun g hg => by rw [← hV22]; exact ((Below.refl _ w21).alloc (Nat.le_refl _) _).block g hg
        have Y12 : Hid ((V22.setRow w21.heap.size #[.int .i64 vst, .int .i64 vsh, .int .i64 vsd, .int .i64 vsp, .int .i64 veu, .int .i64 ves, .int .i64 veh, .int .i64 vea, .int .i64 ven, .int .i64 vfu, .int .i64 vfs, .int .i64 vfh, .int .i64 vfa, .int .i64 vfn, .slice A' n' c']).heap[w.heap.size]? = some (.cells #[.int .i64 st, .int .i64 sh, .int .i64 sd, .int .i64 sp, .int .i64 eu, .int .i64 es, .int .i64 eh, .int .i64 ea, .int .i64 en, .int .i64 fu, .int .i64 fs, .int .i64 fh, .int .i64 fa, .int .i64 fn, .slice A n cap] 57)) := (setRow_other _ _ _ _ (by omega)).trans Y11.out
        have X12 : Hid ((V22.setRow w21.heap.size #[.int .i64 vst, .int .i64 vsh, .int .i64 vsd, .int .i64 vsp, .int .i64 veu, .int .i64 ves, .int .i64 veh, .int .i64 vea, .int .i64 ven, .int .i64 vfu, .int .i64 vfs, .int .i64 vfh, .int .i64 vfa, .int .i64 vfn, .slice A' n' c']).heap[w.heap.size + 1]? = some (.cells #[.int .i64 xu, .int .i64 xs, .int .i64 xh, .int .i64 xa, .int .i64 xn, .string xt, .bool xp] 43)) := (setRow_other _ _ _ _ (by omega)).trans X11.out
        have R12 : Hid ((V22.setRow w21.heap.size #[.int .i64 vst, .int .i64 vsh, .int .i64 vsd, .int .i64 vsp, .int .i64 veu, .int .i64 ves, .int .i64 veh, .int .i64 vea, .int .i64 ven, .int .i64 vfu, .int .i64 vfs, .int .i64 vfh, .int .i64 vfa, .int .i64 vfn, .slice A' n' c']).heap[w.heap.size + 1 + 1]? = some (.cells #[.int .i64 0, .int .i64 0, .int .i64 0, .int .i64 0, .int .i64 0, .int .i64 0, .int .i64 0, .int .i64 0, .int .i64 0, .int .i64 0, .int .i64 0, .int .i64 0, .int .i64 0, .int .i64 0, .slice none 0 0] 57)) := (setRow_other _ _ _ _ (by omega)).trans R11.out
        have G12 : Hid ((V22.setRow w21.heap.size #[.int .i64 vst, .int .i64 vsh, .int .i64 vsd, .int .i64 vsp, .int .i64 veu, .int .i64 ves, .int .i64 veh, .int .i64 vea, .int .i64 ven, .int .i64 vfu, .int .i64 vfs, .int .i64 vfh, .int .i64 vfa, .int .i64 vfn, .slice A' n' c']).heap[gr]? = some (.cells #[.iface 116 (.agg #[.int .i64 eu, .int .i64 es, .int .i64 eh, .int .i64 ea, .int .i64 en]), .iface 117 (.agg #[.int .i64 fu, .int .i64 fs, .int .i64 fh, .int .i64 fa, .int .i64 fn])] 92)) := (setRow_other _ _ _ _ (by omega)).trans G11.out
        have N12 : Hid ((V22.setRow w21.heap.size #[.int .i64 vst, .int .i64 vsh, .int .i64 vsd, .int .i64 vsp, .int .i64 veu, .int .i64 ves, .int .i64 veh, .int .i64 vea, .int .i64 ven, .int .i64 vfu, .int .i64 vfs, .int .i64 vfh, .int .i64 vfa, .int .i64 vfn, .slice A' n' c']).heap[w21.heap.size]? = some (.cells #[.int .i64 vst, .int .i64 vsh, .int .i64 vsd, .int .i64 vsp, .int .i64 veu, .int .i64 ves, .int .i64 veh, .int .i64 vea, .int .i64 ven, .int .i64 vfu, .int .i64 vfs, .int .i64 vfh, .int .i64 vfa, .int .i64 vfn, .slice A' n' c'] 57)) := setRow_heap _ _ _ _ _ _ N11.out
        have K12 : Hid (Below w.heap.size w (V22.setRow w21.heap.size #[.int .i64 vst, .int .i64 vsh, .int .i64 vsd, .int .i64 vsp, .int .i64 veu, .int .i64 ves, .int .i64 veh, .int .i64 vea, .int .i64 ven, .int .i64 vfu, .int .i64 vfs, .int .i64 vfh, .int .i64 vfa, .int .i64 vfn, .slice A' n' c'])) := below_setRow K11.out (by omega) _
        have HL : Hid (yF ≠ 0 → hc = yF ∧ hs = ⟨vst, vsh, vsd, vsp, ⟨⟨veu, ves, veh, vea⟩, ven⟩, ⟨⟨vfu, vfs, vfh, vfa⟩, vfn⟩⟩ ∧ LogOut (V22.setRow w21.heap.size #[.int .i64 vst, .int .i64 vsh, .int .i64 vsd, .int .i64 vsp, .int .i64 veu, .int .i64 ves, .int .i64 veh, .int .i64 vea, .int .i64 ven, .int .i64 vfu, .int .i64 vfs, .int .i64 vfh, .int .i64 vfa, .int .i64 vfn, .slice A' n' c']) wr.heap.size A' n' c' ol) := fun hq => ⟨(hL hq).1, (hL hq).2.1, (hL hq).2.2.to (Nat.le_refl _) (fun g h1 h2 => (setRow_other _ _ _ _ (by omega)).trans (hal g h2))⟩
        clear hL hal
        by_cases hy0 : yF = 0
        ·
          have hy1 : (yF != 0) = false := by rw [hy0]; rfl
          have HY0 := Lib.hid hy0
          clear hy0 HL HQ
          go_wp2_with (refine wpList_store_row rfl 57 _ _ rfl (w21.heap.size) #[.int .i64 vst, .int .i64 vsh, .int .i64 vsd, .int .i64 vsp, .int .i64 veu, .int .i64 ves, .int .i64 veh, .int .i64 vea, .int .i64 ven, .int .i64 vfu, .int .i64 vfs, .int .i64 vfh, .int .i64 vfa, .int .i64 vfn, .slice A' n' c'] rfl rfl 57 _ N11.out (by kernel_rfl) rfl (by simp [Value.oneCell']) ?_)
          go_roundw
          case rel => exact ⟨.inr (.inr ⟨by go_num, hyE, HY0.out⟩), Y12.out, X12.out, R12.out, G12.out, K12.out⟩
          case measure => simp [intOf]
        ·
          have hy1 : (yF != 0) = true := by simpa using hy0
          have HL1 := Lib.hid (HL.out hy0)
          clear HL hy0

          go_wp2_with (first | (refine wpList_store_row rfl 57 _ _ rfl (w21.heap.size) #[.int .i64 vst, .int .i64 vsh, .int .i64 vsd, .int .i64 vsp, .int .i64 veu, .int .i64 ves, .int .i64 veh, .int .i64 vea, .int .i64 ven, .int .i64 vfu, .int .i64 vfs, .int .i64 vfh, .int .i64 vfa, .int .i64 vfn, .slice A' n' c'] rfl rfl 57 _ N11.out (by kernel_rfl) rfl (by simp [Value.oneCell']) ?_) | (refine wpList_load_row rfl 57 _ rfl (w21.heap.size) rfl 57 _ (0, 0) _ N12.out Tryz.underlying57 rfl (by kernel_rfl) ?_) | (refine wpList_store_row rfl 57 _ _ rfl (w.heap.size + 1 + 1) #[.int .i64 vst, .int .i64 vsh, .int .i64 vsd, .int .i64 vsp, .int .i64 veu, .int .i64 ves, .int .i64 veh, .int .i64 vea, .int .i64 ven, .int .i64 vfu, .int .i64 vfs, .int .i64 vfh, .int .i64 vfa, .int .i64 vfn, .slice A' n' c'] rfl rfl 57 _ R12.out (by kernel_rfl) rfl (by simp [Value.oneCell']) ?_))
          exact row_ret2 (r := w.heap.size + 1 + 1) (cs := #[.int .i64 vst, .int .i64 vsh, .int .i64 vsd, .int .i64 vsp, .int .i64 veu, .int .i64 ves, .int .i64 veh, .int .i64 vea, .int .i64 ven, .int .i64 vfu, .int .i64 vfs, .int .i64 vfh, .int .i64 vfa, .int .i64 vfn, .slice A' n' c']) rfl rfl rfl (setRow_heap _ _ _ _ _ _ R12.out) Tryz.underlying57 rfl (by kernel_rfl) rfl ⟨A', n', c', by rw [HL1.out.1, HL1.out.2.1]; rfl, HL1.out.2.2.to gs (fun g h1 h2 => setRow_other _ _ _ _ (by omega)), below_setRow K12.out (by omega) _⟩
      ·
        obtain ⟨e1, e2, e3⟩ := HN1.out hyE hyF
        have H1 := Lib.hid e1
        have H2 := Lib.hid e2
        have H3 := Lib.hid e3
        clear e1 e2 e3 hyE hyF HN1
        go_wp2_with (refine wpList_load_row rfl 57 _ rfl (w.heap.size) rfl 57 _ (0, 0) _ Y9.out Tryz.underlying57 rfl (by kernel_rfl) ?_)
        refine (cCC.out _ ((E.out.below K9.out).mono K9.out.size)).mono ?_
        rintro e w21 ⟨g, cb, rfl, hM, hb⟩
        have hgb := hM.base
        have hkk := K9.out.size
        have gn := blk_in R9.out
        have Y10 := Lib.hid (blk_on hb Y9.out)
        have X10 := Lib.hid (blk_on hb X9.out)
        have R10 := Lib.hid (blk_on hb R9.out)
        have G10 := Lib.hid (blk_on hb G9.out)
        have K10 := Lib.hid (K9.out.trans (hb.mono K9.out.size))
        clear hb Y9 X9 R9 G9 K9
        have HC : Hid (SeatV.val ⟨st, sh, sd, sp, ⟨⟨eu, es, eh, ea⟩, en⟩, ⟨⟨fu, fs, fh, fa⟩, fn⟩⟩ (some ⟨g, 0, none⟩) n cb = .agg #[.int .i64 st, .int .i64 sh, .int .i64 sd, .int .i64 sp, .int .i64 eu, .int .i64 es, .int .i64 eh, .int .i64 ea, .int .i64 en, .int .i64 fu, .int .i64 fs, .int .i64 fh, .int .i64 fa, .int .i64 fn, .slice (some ⟨g, 0, none⟩) n cb]) := rfl
        rw [HC.out]
        have M0 := Lib.hid hM
        clear hM
        go_wp2_with (refine wpList_store_row rfl 57 _ _ rfl (w.heap.size + 1 + 1) #[.int .i64 st, .int .i64 sh, .int .i64 sd, .int .i64 sp, .int .i64 eu, .int .i64 es, .int .i64 eh, .int .i64 ea, .int .i64 en, .int .i64 fu, .int .i64 fs, .int .i64 fh, .int .i64 fa, .int .i64 fn, .slice (some ⟨g, 0, none⟩) n cb] rfl rfl 57 _ R10.out (by kernel_rfl) rfl (by simp [Value.oneCell']) ?_)
        exact row_ret2 (r := w.heap.size + 1 + 1) (cs := #[.int .i64 st, .int .i64 sh, .int .i64 sd, .int .i64 sp, .int .i64 eu, .int .i64 es, .int .i64 eh, .int .i64 ea, .int .i64 en, .int .i64 fu, .int .i64 fs, .int .i64 fh, .int .i64 fa, .int .i64 fn, .slice (some ⟨g, 0, none⟩) n cb]) rfl rfl rfl (setRow_heap _ _ _ _ _ _ R10.out) Tryz.underlying57 rfl (by kernel_rfl) rfl ⟨some ⟨g, 0, none⟩, n, cb, by rw [H1.out, H2.out]; rfl, .inr ⟨g, rfl, by rw [H3.out]; exact hln.symm, by rw [H3.out]; exact (M0.out.heap (setRow_other _ _ _ _ (by omega))).mono (by omega)⟩, below_setRow K10.out (by omega) _⟩

end Go.Proofs.YtioogmeghmeelaaGreatDoor.Tx
