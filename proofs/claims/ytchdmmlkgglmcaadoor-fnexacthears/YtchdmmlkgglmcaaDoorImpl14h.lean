/-
  What the small functions behind Hears of the program answer. Conditions: at most 1048576 words; the library's table of powers of ten holds what its text lays in it.
-/
import Derived.Stop.Asserts
import Derived.Test.YtchdmmlkgglmcaaDoorImpl14
import Derived.Test.YtchdmmlkgglmcaaDoorImpl5b
import Derived.Test.YtchdmmlkgglmcaaDoorFmt
namespace Go.Proofs.YtchdmmlkgglmcaaDoor.Tx
open Go.RowKit

theorem asE (v : Value) (w : World) : (Instr.typeAssert (.iface 107 v) 79 140 true).run Tryd.prog w = .ok (.tuple #[.iface 107 v, .bool true]) w := by kernel_rfl
theorem asF (v : Value) (w : World) : (Instr.typeAssert (.iface 108 v) 79 140 true).run Tryd.prog w = .ok (.tuple #[.nilIface, .bool false]) w := run_typeAssert_lacksB Tryd.underlying140 (by kernel_rfl) (by kernel_rfl) v 79 w

set_option maxHeartbeats 4000000 in
theorem endBehind_any (n : Nat) (hn : n ≤ 1048576) (w : World) (ht : Tab w) : Calls Tryd.prog 92 #[.int .i64 (n : Int)] w fun e w' => e = .returned (.string (endT n)) ∧ Below w.heap.size w w' := by
  have cF := fmt_any (n : Int) ⟨by omega, by omega⟩ w ht
  have hs : (intT (n : Int)).size ≤ 19 := by rw [intT, if_neg (by omega)]; exact (decT_size (by omega)).2
  unfold endT
  generalize intT (n : Int) = tx at cF hs ⊢
  have h9 : ¬ 9223372036854775807 < 3 + tx.size := by omega
  clear ht hs
  go_enter Tryd.func92, Tryd.ntmps92
  go_wp2_with fail
  refine cF.mono ?_
  rintro e w1 ⟨rfl, hb⟩
  go_wp2
  go_ret
  exact ⟨rfl, hb⟩

set_option maxRecDepth 100000 in
set_option maxHeartbeats 16000000 in
theorem heardFirst_any (s : SeatV) (A : Option Addr) (n cap : Nat) (t : ByteArray) (hn : n ≤ 1048576) (w : World) (ht : Tab w) : Calls Tryd.prog 86 #[s.val A n cap, .string t] w fun e w' => e = .returned (.int .i64 (if isEnd t n then 2 else 0)) ∧ Below w.heap.size w w' := by
  obtain ⟨st, sh, sd, sp, ⟨⟨eu, es, eh, ea⟩, en⟩, ⟨⟨fu, fs, fh, fa⟩, fn⟩⟩ := s
  have HV : Hid (SeatV.val ⟨st, sh, sd, sp, ⟨⟨eu, es, eh, ea⟩, en⟩, ⟨⟨fu, fs, fh, fa⟩, fn⟩⟩ A n cap = .agg #[.int .i64 st, .int .i64 sh, .int .i64 sd, .int .i64 sp, .int .i64 eu, .int .i64 es, .int .i64 eh, .int .i64 ea, .int .i64 en, .int .i64 fu, .int .i64 fs, .int .i64 fh, .int .i64 fa, .int .i64 fn, .slice A n cap]) := rfl
  rw [HV.out]
  clear HV
  have HTB := Lib.hid ht
  have cE := Lib.hid fun (w' : World) hT => endBehind_any n hn w' hT
  unfold isEnd
  generalize endT n = tn at cE ⊢
  clear ht
  obtain ⟨y, hy⟩ : ∃ y : Int, (if t.toList == tn.toList then 2 else 0) = y := ⟨_, rfl⟩
  rw [hy]
  have HY := Lib.hid hy
  clear hy
  obtain ⟨W0, hW0⟩ : ∃ W, w.alloc (.cells #[.int .i64 st, .int .i64 sh, .int .i64 sd, .int .i64 sp, .int .i64 eu, .int .i64 es, .int .i64 eh, .int .i64 ea, .int .i64 en, .int .i64 fu, .int .i64 fs, .int .i64 fh, .int .i64 fa, .int .i64 fn, .slice A n cap] 32) = W := ⟨_, rfl⟩
  have K0 : Hid (Below w.heap.size w W0) := by rw [← hW0]; exact (Below.refl _ w).alloc (Nat.le_refl _) _
  have S0 : Hid (W0.heap[w.heap.size]? = some (.cells #[.int .i64 st, .int .i64 sh, .int .i64 sd, .int .i64 sp, .int .i64 eu, .int .i64 es, .int .i64 eh, .int .i64 ea, .int .i64 en, .int .i64 fu, .int .i64 fs, .int .i64 fh, .int .i64 fa, .int .i64 fn, .slice A n cap] 32)) := by rw [← hW0]; exact heap1 w _
  go_enter Tryd.func86, Tryd.ntmps86
  obtain ⟨⟨a0, a1, a2, a3, a4, a5, a6, a7, a8, a9, a10, a11, a12, a13, a14⟩, _⟩ := blk15 S0.out
  go_wp2_with fail
  clear a0 a1 a2 a3 a4 a5 a6 a7 a8 a9 a10 a11 a12 a13 a14
  clear hW0
  refine (cE.out _ (HTB.out.on K0.out)).mono ?_
  rintro e w1 ⟨rfl, hb⟩
  have S1 := Lib.hid (blk_on hb S0.out)
  have K1 := Lib.hid (K0.out.trans (hb.mono K0.out.size))
  clear hb S0 K0
  cases htx : t.toList == tn.toList
  ·
    have htx2 : (t.toList != tn.toList) = true := by rw [bne, htx]; rfl
    have HE : Hid (y = 0) := by show _ = _; rw [← HY.out, htx]; rfl
    go_wp2
    go_ret
    exact ⟨by rw [HE.out]; rfl, K1.out⟩
  ·
    have htx2 : (t.toList != tn.toList) = false := by rw [bne, htx]; rfl
    have HE : Hid (y = 2) := by show _ = _; rw [← HY.out, htx]; rfl
    go_wp2
    go_ret
    exact ⟨by rw [HE.out]; rfl, K1.out⟩

theorem rowEarly_any (r : RowV) (w : World) : Calls Tryd.prog 126 #[r.val] w fun e w' => e = .returned (.bool true) ∧ Below w.heap.size w w' := by
  obtain ⟨⟨ru, rs, rh, ra⟩, rn⟩ := r
  have HV : Hid (RowV.val ⟨⟨ru, rs, rh, ra⟩, rn⟩ = .agg #[.int .i64 ru, .int .i64 rs, .int .i64 rh, .int .i64 ra, .int .i64 rn]) := rfl
  rw [HV.out]
  have K0 : Hid (Below w.heap.size w (w.alloc (.cells #[.int .i64 ru, .int .i64 rs, .int .i64 rh, .int .i64 ra, .int .i64 rn] 107))) := (Below.refl _ w).alloc (Nat.le_refl _) _
  go_enter Tryd.func126, Tryd.ntmps126
  go_wp2
  go_ret
  exact ⟨rfl, K0.out⟩

set_option maxRecDepth 100000 in
set_option maxHeartbeats 16000000 in
theorem isEarlyRow_e (r : RowV) (w : World) : Calls Tryd.prog 85 #[.iface 107 r.val] w fun e w' => e = .returned (.bool true) ∧ Below w.heap.size w w' := by
  have as0 := asE r.val
  have cR := Lib.hid fun (w' : World) => rowEarly_any r w'
  generalize r.val = v at as0 cR ⊢
  go_enter Tryd.func85, Tryd.ntmps85
  go_wp2_with fail
  refine (cR.out _).mono ?_
  rintro e w1 ⟨rfl, hb⟩
  go_wp2
  go_ret
  exact ⟨rfl, hb⟩

set_option maxRecDepth 100000 in
set_option maxHeartbeats 16000000 in
theorem isEarlyRow_f (r : RowV) (w : World) : Calls Tryd.prog 85 #[.iface 108 r.val] w fun e w' => e = .returned (.bool false) ∧ Below w.heap.size w w' := by
  have as0 := asF r.val
  generalize r.val = v at as0 ⊢
  go_enter Tryd.func85, Tryd.ntmps85
  go_wp2
  go_ret
  exact ⟨rfl, Below.refl _ _⟩


set_option maxRecDepth 100000 in
set_option maxHeartbeats 16000000 in
theorem heardAs_e (s : SeatV) (A : Option Addr) (n cap : Nat) (r : RowV) (t : ByteArray) (_ : n ≤ 1048576) (w : World) : Calls Tryd.prog 70 #[s.val A n cap, .iface 107 r.val, .string t] w fun e w' => e = .returned (.int .i64 (if n = 60 then 0 else 1)) ∧ Below w.heap.size w w' := by
  have c0 := Lib.hid fun (w' : World) => isEarlyRow_e r w'
  generalize r.val = v at c0 ⊢
  obtain ⟨st, sh, sd, sp, ⟨⟨eu, es, eh, ea⟩, en⟩, ⟨⟨fu, fs, fh, fa⟩, fn⟩⟩ := s
  have HV : Hid (SeatV.val ⟨st, sh, sd, sp, ⟨⟨eu, es, eh, ea⟩, en⟩, ⟨⟨fu, fs, fh, fa⟩, fn⟩⟩ A n cap = .agg #[.int .i64 st, .int .i64 sh, .int .i64 sd, .int .i64 sp, .int .i64 eu, .int .i64 es, .int .i64 eh, .int .i64 ea, .int .i64 en, .int .i64 fu, .int .i64 fs, .int .i64 fh, .int .i64 fa, .int .i64 fn, .slice A n cap]) := rfl
  rw [HV.out]
  clear HV
  obtain ⟨y, hy⟩ : ∃ y : Int, (if n = 60 then 0 else 1) = y := ⟨_, rfl⟩
  rw [hy]
  have HY := Lib.hid hy
  clear hy
  obtain ⟨W0, hW0⟩ : ∃ W, w.alloc (.cells #[.int .i64 st, .int .i64 sh, .int .i64 sd, .int .i64 sp, .int .i64 eu, .int .i64 es, .int .i64 eh, .int .i64 ea, .int .i64 en, .int .i64 fu, .int .i64 fs, .int .i64 fh, .int .i64 fa, .int .i64 fn, .slice A n cap] 32) = W := ⟨_, rfl⟩
  have K0 : Hid (Below w.heap.size w W0) := by rw [← hW0]; exact (Below.refl _ w).alloc (Nat.le_refl _) _
  have S0 : Hid (W0.heap[w.heap.size]? = some (.cells #[.int .i64 st, .int .i64 sh, .int .i64 sd, .int .i64 sp, .int .i64 eu, .int .i64 es, .int .i64 eh, .int .i64 ea, .int .i64 en, .int .i64 fu, .int .i64 fs, .int .i64 fh, .int .i64 fa, .int .i64 fn, .slice A n cap] 32)) := by rw [← hW0]; exact heap1 w _
  go_enter Tryd.func70, Tryd.ntmps70
  go_wp2_with fail
  clear hW0
  refine (c0.out _).mono ?_
  rintro e w1 ⟨rfl, hb⟩
  have S1 := Lib.hid (blk_on hb S0.out)
  have K1 := Lib.hid (K0.out.trans (hb.mono K0.out.size))
  clear hb S0 K0
  by_cases hs : st = 1
  ·
    have hsq : (st == 1) = true := beq_int hs
    clear hs
    by_cases h60 : n = 60
    ·
      have h61 : ((n : Int) == 60) = true := beq_int (by omega)
      have HE : Hid (y = 0) := by show _ = _; rw [← HY.out, if_pos h60]
      clear h60
      obtain ⟨⟨a0, a1, a2, a3, a4, a5, a6, a7, a8, a9, a10, a11, a12, a13, a14⟩, _⟩ := blk15 S1.out
      go_wp2
      go_ret
      exact ⟨by rw [HE.out]; rfl, K1.out⟩
    ·
      have h61 : ((n : Int) == 60) = false := bne_int (by omega)
      have HE : Hid (y = 1) := by show _ = _; rw [← HY.out, if_neg h60]
      clear h60
      obtain ⟨⟨a0, a1, a2, a3, a4, a5, a6, a7, a8, a9, a10, a11, a12, a13, a14⟩, _⟩ := blk15 S1.out
      go_wp2
      go_ret
      exact ⟨by rw [HE.out]; rfl, K1.out⟩
  ·
    have hsq : (st == 1) = false := bne_int hs
    clear hs
    by_cases h60 : n = 60
    ·
      have h61 : ((n : Int) == 60) = true := beq_int (by omega)
      have HE : Hid (y = 0) := by show _ = _; rw [← HY.out, if_pos h60]
      clear h60
      obtain ⟨⟨a0, a1, a2, a3, a4, a5, a6, a7, a8, a9, a10, a11, a12, a13, a14⟩, _⟩ := blk15 S1.out
      go_wp2
      go_ret
      exact ⟨by rw [HE.out]; rfl, K1.out⟩
    ·
      have h61 : ((n : Int) == 60) = false := bne_int (by omega)
      have HE : Hid (y = 1) := by show _ = _; rw [← HY.out, if_neg h60]
      clear h60
      obtain ⟨⟨a0, a1, a2, a3, a4, a5, a6, a7, a8, a9, a10, a11, a12, a13, a14⟩, _⟩ := blk15 S1.out
      go_wp2
      go_ret
      exact ⟨by rw [HE.out]; rfl, K1.out⟩

set_option maxRecDepth 100000 in
set_option maxHeartbeats 16000000 in
theorem heardAs_f (s : SeatV) (A : Option Addr) (n cap : Nat) (r : RowV) (t : ByteArray) (hn : n ≤ 1048576) (w : World) (ht : Tab w) : Calls Tryd.prog 70 #[s.val A n cap, .iface 108 r.val, .string t] w fun e w' => e = .returned (.int .i64 (if s.st = 1 then (if isEnd t n then 2 else 0) else if n = 60 then 0 else 3)) ∧ Below w.heap.size w w' := by
  have c0 := Lib.hid fun (w' : World) => isEarlyRow_f r w'
  generalize r.val = v at c0 ⊢
  have HTB := Lib.hid ht
  have cX' := fun (w' : World) hT => heardFirst_any s A n cap t hn w' hT
  generalize (if isEnd t n then (2 : Int) else 0) = y2 at cX' ⊢
  clear ht
  obtain ⟨st, sh, sd, sp, ⟨⟨eu, es, eh, ea⟩, en⟩, ⟨⟨fu, fs, fh, fa⟩, fn⟩⟩ := s
  have HV : Hid (SeatV.val ⟨st, sh, sd, sp, ⟨⟨eu, es, eh, ea⟩, en⟩, ⟨⟨fu, fs, fh, fa⟩, fn⟩⟩ A n cap = .agg #[.int .i64 st, .int .i64 sh, .int .i64 sd, .int .i64 sp, .int .i64 eu, .int .i64 es, .int .i64 eh, .int .i64 ea, .int .i64 en, .int .i64 fu, .int .i64 fs, .int .i64 fh, .int .i64 fa, .int .i64 fn, .slice A n cap]) := rfl
  rw [HV.out]
  rw [HV.out] at cX'
  have cX := Lib.hid cX'
  clear cX'
  dsimp only
  clear HV
  obtain ⟨y, hy⟩ : ∃ y : Int, (if st = 1 then y2 else if n = 60 then 0 else 3) = y := ⟨_, rfl⟩
  rw [hy]
  have HY := Lib.hid hy
  clear hy
  obtain ⟨W0, hW0⟩ : ∃ W, w.alloc (.cells #[.int .i64 st, .int .i64 sh, .int .i64 sd, .int .i64 sp, .int .i64 eu, .int .i64 es, .int .i64 eh, .int .i64 ea, .int .i64 en, .int .i64 fu, .int .i64 fs, .int .i64 fh, .int .i64 fa, .int .i64 fn, .slice A n cap] 32) = W := ⟨_, rfl⟩
  have K0 : Hid (Below w.heap.size w W0) := by rw [← hW0]; exact (Below.refl _ w).alloc (Nat.le_refl _) _
  have S0 : Hid (W0.heap[w.heap.size]? = some (.cells #[.int .i64 st, .int .i64 sh, .int .i64 sd, .int .i64 sp, .int .i64 eu, .int .i64 es, .int .i64 eh, .int .i64 ea, .int .i64 en, .int .i64 fu, .int .i64 fs, .int .i64 fh, .int .i64 fa, .int .i64 fn, .slice A n cap] 32)) := by rw [← hW0]; exact heap1 w _
  go_enter Tryd.func70, Tryd.ntmps70
  go_wp2_with fail
  clear hW0
  refine (c0.out _).mono ?_
  rintro e w1 ⟨rfl, hb⟩
  have S1 := Lib.hid (blk_on hb S0.out)
  have K1 := Lib.hid (K0.out.trans (hb.mono K0.out.size))
  clear hb S0 K0
  by_cases hs : st = 1
  ·
    have hsq : (st == 1) = true := beq_int hs
    have HE : Hid (y = y2) := by show _ = _; rw [← HY.out, if_pos hs]
    clear hs
    obtain ⟨⟨a0, a1, a2, a3, a4, a5, a6, a7, a8, a9, a10, a11, a12, a13, a14⟩, _⟩ := blk15 S1.out
    go_wp2_with fail
    clear a0 a1 a2 a3 a4 a5 a6 a7 a8 a9 a10 a11 a12 a13 a14
    refine (cX.out _ (HTB.out.on K1.out)).mono ?_
    rintro e w2 ⟨rfl, hb⟩
    have S2 := Lib.hid (blk_on hb S1.out)
    have K2 := Lib.hid (K1.out.trans (hb.mono K1.out.size))
    clear hb S1 K1
    go_wp2
    go_ret
    exact ⟨by rw [HE.out]; rfl, K2.out⟩
  ·
    have hsq : (st == 1) = false := bne_int hs
    by_cases h60 : n = 60
    ·
      have h61 : ((n : Int) == 60) = true := beq_int (by omega)
      have HE : Hid (y = 0) := by show _ = _; rw [← HY.out, if_neg hs, if_pos h60]
      clear h60 hs
      obtain ⟨⟨a0, a1, a2, a3, a4, a5, a6, a7, a8, a9, a10, a11, a12, a13, a14⟩, _⟩ := blk15 S1.out
      go_wp2
      go_ret
      exact ⟨by rw [HE.out]; rfl, K1.out⟩
    ·
      have h61 : ((n : Int) == 60) = false := bne_int (by omega)
      have HE : Hid (y = 3) := by show _ = _; rw [← HY.out, if_neg hs, if_neg h60]
      clear h60 hs
      obtain ⟨⟨a0, a1, a2, a3, a4, a5, a6, a7, a8, a9, a10, a11, a12, a13, a14⟩, _⟩ := blk15 S1.out
      go_wp2
      go_ret
      exact ⟨by rw [HE.out]; rfl, K1.out⟩

set_option maxRecDepth 100000 in
set_option maxHeartbeats 16000000 in
theorem copiedList_any (A : Option Addr) (n cap : Nat) (l : List WordV) (w : World) (h : EltsO w w.heap.size A n l) (hzc : A = none → cap = 0) (hn : n ≤ 1048576) :
    Calls Tryd.prog 71 #[.slice A n cap] w fun e w' => ∃ g cb, e = .returned (.slice (some ⟨g, 0, none⟩) n cb) ∧ MadeE w' w.heap.size 69 l g cb ∧ Below w.heap.size w w' := by
  obtain ⟨i0, by0, hi, hz0, hz1, hz2, hby⟩ := infoWordE
  have E := Lib.hid h
  have hz := Lib.hid hzc
  clear h hzc
  obtain ⟨W0, hW0⟩ : ∃ W, w.alloc (.cells #[] 69) = W := ⟨_, rfl⟩
  have K0 : Hid (Below w.heap.size w W0) := by rw [← hW0]; exact (Below.refl _ w).alloc (Nat.le_refl _) _
  have N0 : Hid (W0.heap[w.heap.size]? = some (.cells #[] 69)) := by rw [← hW0]; exact heap1 w _
  have E1 := Lib.hid (E.out.below K0.out)
  have hlt : w.heap.size < W0.heap.size := blk_in N0.out
  go_enter Tryd.func71, Tryd.ntmps71
  rcases A with _ | ad
  · have hn0 : n = 0 := by
      rcases Nat.eq_zero_or_pos n with h | h
      · exact h
      · obtain ⟨_, _, e, _⟩ := E.out.2 h; cases e
    subst hn0
    obtain rfl : l = [] := List.length_eq_zero_iff.1 E.out.1
    obtain rfl : cap = 0 := hz.out rfl
    have M0 : Hid (MadeE W0 w.heap.size 69 ([] : List WordV) w.heap.size 0) := madeG_nil N0.out (Nat.le_refl _)
    have hap := run_append_owned_none W0 w.heap.size 112 112 69 i0 2 Tryd.underlying112 hi _ 0 [] M0.out.own
    go_wp2
    go_ret
    exact ⟨w.heap.size, 0, rfl, M0.out, K0.out⟩
  · go_wp2_with (at_builtin; refine wpList_append_own _ rfl _ _ 112 rfl w.heap.size 69 i0 WordV.zero.val 2 by0 Tryd.underlying112 hi hz0 hz1 hz2 rfl (by decide) _ 0 [] rfl (madeG_nil N0.out (Nat.le_refl _)).own ad n cap (l.flatMap Cells.cells) rfl (by rw [flat_len, E.out.1]; rfl) (E1.out.cells (by omega)) flat_one (by unfold maxLen; omega) (Nat.le_trans (Nat.mul_le_mul (by omega : 0 + n ≤ 1048576) hby) (by decide)) (by omega) ?_; intro v' w3 hown' hgrow hiff; have h9 := made_app (l := ([] : List WordV)) (l2 := l) (n := 0) (m := n) (gb := w.heap.size) (cb := 0) hown' rfl E.out.1.symm hiff; obtain ⟨gb', cb', rfl, hM'⟩ := h9; have HM' : Hid (MadeE w3 w.heap.size 69 l gb' cb') := hM'; have HGR := Lib.hid hgrow; clear hown' hgrow hM' hiff)
    have hln : l.length = n := E.out.1
    try rw [List.nil_append]
    try simp only [hln]
    go_ret
    exact ⟨gb', cb', rfl, HM'.out, below_off K0.out HGR.out ⟨Nat.le_refl _, by omega⟩⟩

theorem EltsO.oncopy {α : Type} [Cells α] {w w' : World} {B n : Nat} {A : Option Addr} {l : List α} (h : EltsO w B A n l) (k : Below B w w') (hs : B ≤ w'.heap.size) : EltsO w' w'.heap.size A n l := (h.below k).mono hs

set_option maxRecDepth 100000 in
set_option maxHeartbeats 16000000 in
theorem copied_any (s : SeatV) (A : Option Addr) (n cap : Nat) (l : List WordV) (w : World) (h : EltsO w w.heap.size A n l) (hzc : A = none → cap = 0) (hn : n ≤ 1048576) :
    Calls Tryd.prog 40 #[s.val A n cap] w fun e w' => ∃ g cb, e = .returned (s.val (some ⟨g, 0, none⟩) n cb) ∧ MadeE w' w.heap.size 69 l g cb ∧ Below w.heap.size w w' := by
  have E := Lib.hid h
  have cL := Lib.hid fun (w' : World) (h' : EltsO w' w'.heap.size A n l) => copiedList_any A n cap l w' h' hzc hn
  clear h hzc
  obtain ⟨st, sh, sd, sp, ⟨⟨eu, es, eh, ea⟩, en⟩, ⟨⟨fu, fs, fh, fa⟩, fn⟩⟩ := s
  have HV : Hid (SeatV.val ⟨st, sh, sd, sp, ⟨⟨eu, es, eh, ea⟩, en⟩, ⟨⟨fu, fs, fh, fa⟩, fn⟩⟩ A n cap = .agg #[.int .i64 st, .int .i64 sh, .int .i64 sd, .int .i64 sp, .int .i64 eu, .int .i64 es, .int .i64 eh, .int .i64 ea, .int .i64 en, .int .i64 fu, .int .i64 fs, .int .i64 fh, .int .i64 fa, .int .i64 fn, .slice A n cap]) := rfl
  rw [HV.out]
  clear HV
  obtain ⟨W0, hW0⟩ : ∃ W, (w.alloc (.cells #[.int .i64 st, .int .i64 sh, .int .i64 sd, .int .i64 sp, .int .i64 eu, .int .i64 es, .int .i64 eh, .int .i64 ea, .int .i64 en, .int .i64 fu, .int .i64 fs, .int .i64 fh, .int .i64 fa, .int .i64 fn, .slice A n cap] 32)).alloc (.cells #[.int .i64 0, .int .i64 0, .int .i64 0, .int .i64 0, .int .i64 0, .int .i64 0, .int .i64 0, .int .i64 0, .int .i64 0, .int .i64 0, .int .i64 0, .int .i64 0, .int .i64 0, .int .i64 0, .slice none 0 0] 32) = W := ⟨_, rfl⟩
  have K0 : Hid (Below w.heap.size w W0) := by rw [← hW0]; exact ((Below.refl _ w).alloc (Nat.le_refl _) _).alloc (by simp; try omega) _
  have Y0 : Hid (W0.heap[w.heap.size]? = some (.cells #[.int .i64 st, .int .i64 sh, .int .i64 sd, .int .i64 sp, .int .i64 eu, .int .i64 es, .int .i64 eh, .int .i64 ea, .int .i64 en, .int .i64 fu, .int .i64 fs, .int .i64 fh, .int .i64 fa, .int .i64 fn, .slice A n cap] 32)) := by rw [← hW0]; exact heap2a w _ _
  have R0 : Hid (W0.heap[w.heap.size + 1]? = some (.cells #[.int .i64 0, .int .i64 0, .int .i64 0, .int .i64 0, .int .i64 0, .int .i64 0, .int .i64 0, .int .i64 0, .int .i64 0, .int .i64 0, .int .i64 0, .int .i64 0, .int .i64 0, .int .i64 0, .slice none 0 0] 32)) := by rw [← hW0]; exact heap2b w _ _
  have zW0 : W0.heap.size = w.heap.size + 2 := by rw [← hW0]; simp
  go_enter Tryd.func40, Tryd.ntmps40
  obtain ⟨⟨a0, a1, a2, a3, a4, a5, a6, a7, a8, a9, a10, a11, a12, a13, a14⟩, _⟩ := blk15 Y0.out
  go_wp2_with fail
  clear a0 a1 a2 a3 a4 a5 a6 a7 a8 a9 a10 a11 a12 a13 a14
  clear hW0
  refine (cL.out _ (E.out.oncopy K0.out K0.out.size)).mono ?_
  rintro e w1 ⟨g, cb, rfl, hM, hb⟩
  have M0 := Lib.hid (hM.mono K0.out.size)
  have hgb := hM.base
  have hsw := hb.size
  clear hM
  have Y1 := Lib.hid (blk_on hb Y0.out)
  have R1 := Lib.hid (blk_on hb R0.out)
  have K1 := Lib.hid (K0.out.trans (hb.mono K0.out.size))
  clear hb Y0 R0 K0
  obtain ⟨⟨b0, b1, b2, b3, b4, b5, b6, b7, b8, b9, b10, b11, b12, b13, b14⟩, bz0, bz1, bz2, bz3, bz4, bz5, bz6, bz7, bz8, bz9, bz10, bz11, bz12, bz13, bz14⟩ := blk15 Y1.out
  obtain ⟨S2, qS2⟩ : ∃ W, setAll w1 w.heap.size 14 [.slice (some ⟨g, 0, none⟩) n cb] = W := ⟨_, rfl⟩
  have hS2 : (w1.setCell ⟨w.heap.size, 14, none⟩ (.slice (some ⟨g, 0, none⟩) n cb)) = S2 := qS2
  have Y2 : Hid (S2.heap[w.heap.size]? = some (.cells #[.int .i64 st, .int .i64 sh, .int .i64 sd, .int .i64 sp, .int .i64 eu, .int .i64 es, .int .i64 eh, .int .i64 ea, .int .i64 en, .int .i64 fu, .int .i64 fs, .int .i64 fh, .int .i64 fa, .int .i64 fn, .slice (some ⟨g, 0, none⟩) n cb] 32)) := by
    rw [← qS2]
    refine (setAll_blk (w := w1) (g := w.heap.size) [.slice (some ⟨g, 0, none⟩) n cb] 14 Y1.out).trans ?_
    refine congrArg (fun z => some (Obj.cells z 32 (0, 0))) (Array.toList_inj.1 ?_)
    rw [overA_toList _ _ _ (by simp)]
    rfl
  have R2 : Hid (S2.heap[w.heap.size + 1]? = some (.cells #[.int .i64 0, .int .i64 0, .int .i64 0, .int .i64 0, .int .i64 0, .int .i64 0, .int .i64 0, .int .i64 0, .int .i64 0, .int .i64 0, .int .i64 0, .int .i64 0, .int .i64 0, .int .i64 0, .slice none 0 0] 32)) := by rw [← qS2]; exact setAll_away (by omega) _ _ R1.out
  have K2 : Hid (Below w.heap.size w S2) := by rw [← qS2]; exact setAll_below (g := w.heap.size) (by omega) [.slice (some ⟨g, 0, none⟩) n cb] 14 K1.out
  have zS2 : w1.heap.size = S2.heap.size := by rw [← qS2]; exact (setAll_size [.slice (some ⟨g, 0, none⟩) n cb] 14 _).symm
  clear qS2 Y1 R1 K1
  have MF : Hid (MadeE S2 w.heap.size 69 l g cb) := by
    rw [← hS2]
    exact M0.out.heap (setAll_off (g := w.heap.size) (by omega) [.slice (some ⟨g, 0, none⟩) n cb] 14)
  go_upto_region 2 with fail
  try rw [hS2]
  clear b0 b1 b2 b3 b4 b5 b6 b7 b8 b9 b10 b11 b12 b13 b14 bz0 bz1 bz2 bz3 bz4 bz5 bz6 bz7 bz8 bz9 bz10 bz11 bz12 bz13 bz14
  clear hS2
  go_wp2_with (first | (refine wpList_load_row rfl 32 _ rfl (w.heap.size) rfl 32 _ (0, 0) _ Y2.out Tryd.underlying32 rfl (by kernel_rfl) ?_) | (refine wpList_store_row rfl 32 _ _ rfl (w.heap.size + 1) #[.int .i64 st, .int .i64 sh, .int .i64 sd, .int .i64 sp, .int .i64 eu, .int .i64 es, .int .i64 eh, .int .i64 ea, .int .i64 en, .int .i64 fu, .int .i64 fs, .int .i64 fh, .int .i64 fa, .int .i64 fn, .slice (some ⟨g, 0, none⟩) n cb] rfl rfl 32 _ R2.out (by kernel_rfl) rfl (by simp [Value.oneCell']) ?_))
  exact row_ret (r := w.heap.size + 1) (cs := #[.int .i64 st, .int .i64 sh, .int .i64 sd, .int .i64 sp, .int .i64 eu, .int .i64 es, .int .i64 eh, .int .i64 ea, .int .i64 en, .int .i64 fu, .int .i64 fs, .int .i64 fh, .int .i64 fa, .int .i64 fn, .slice (some ⟨g, 0, none⟩) n cb]) rfl rfl (setRow_heap _ _ _ _ _ _ R2.out) Tryd.underlying32 rfl (by kernel_rfl) rfl ⟨g, cb, rfl, MF.out.heap (setRow_other _ _ _ _ (by omega)), below_setRow K2.out (by omega) _⟩

set_option maxRecDepth 100000 in
set_option maxHeartbeats 16000000 in
theorem takenIn_e (r : RowV) (s : SeatV) (A : Option Addr) (n cap : Nat) (b : BoxV) (w : World) : Calls Tryd.prog 127 #[r.val, s.val A n cap, b.val] w fun e w' => e = .returned (.tuple #[(({ s with e := takeR r b } : SeatV)).val A n cap, .string (takeT r b), .bool (takeB r b)]) ∧ Below w.heap.size w w' := by
  have cT' := fun w' => Take_impl r b w'
  obtain ⟨⟨⟨qu, qs, qh, qa⟩, qn⟩, hq⟩ : ∃ x, takeR r b = x := ⟨_, rfl⟩
  rw [hq] at cT' ⊢
  clear hq
  generalize takeT r b = tt at cT' ⊢
  generalize takeB r b = tb at cT' ⊢
  obtain ⟨⟨ru, rs, rh, ra⟩, rn⟩ := r
  obtain ⟨⟨xu, xs, xh, xa⟩, xn, xt, xp⟩ := b
  obtain ⟨st, sh, sd, sp, ⟨⟨eu, es, eh, ea⟩, en⟩, ⟨⟨fu, fs, fh, fa⟩, fn⟩⟩ := s
  have HV : Hid (SeatV.val ⟨st, sh, sd, sp, ⟨⟨eu, es, eh, ea⟩, en⟩, ⟨⟨fu, fs, fh, fa⟩, fn⟩⟩ A n cap = .agg #[.int .i64 st, .int .i64 sh, .int .i64 sd, .int .i64 sp, .int .i64 eu, .int .i64 es, .int .i64 eh, .int .i64 ea, .int .i64 en, .int .i64 fu, .int .i64 fs, .int .i64 fh, .int .i64 fa, .int .i64 fn, .slice A n cap]) := rfl
  rw [HV.out]
  have cT : Hid (∀ w' : World, Calls Tryd.prog 128 #[.agg #[.int .i64 ru, .int .i64 rs, .int .i64 rh, .int .i64 ra, .int .i64 rn], .agg #[.int .i64 xu, .int .i64 xs, .int .i64 xh, .int .i64 xa, .int .i64 xn, .string xt, .bool xp]] w' fun e w'' => e = .returned (.tuple #[.agg #[.int .i64 qu, .int .i64 qs, .int .i64 qh, .int .i64 qa, .int .i64 qn], .string tt, .bool tb]) ∧ Below w'.heap.size w' w'') := fun w' => cT' w'
  have HR : Hid (RowV.val ⟨⟨ru, rs, rh, ra⟩, rn⟩ = .agg #[.int .i64 ru, .int .i64 rs, .int .i64 rh, .int .i64 ra, .int .i64 rn]) := rfl
  have HX : Hid (BoxV.val ⟨⟨xu, xs, xh, xa⟩, xn, xt, xp⟩ = .agg #[.int .i64 xu, .int .i64 xs, .int .i64 xh, .int .i64 xa, .int .i64 xn, .string xt, .bool xp]) := rfl
  rw [HR.out, HX.out]
  clear cT' HR HX HV
  have HN : Hid ((({ (⟨st, sh, sd, sp, ⟨⟨eu, es, eh, ea⟩, en⟩, ⟨⟨fu, fs, fh, fa⟩, fn⟩⟩ : SeatV) with e := ⟨⟨qu, qs, qh, qa⟩, qn⟩ } : SeatV)).val A n cap = .agg #[.int .i64 st, .int .i64 sh, .int .i64 sd, .int .i64 sp, .int .i64 qu, .int .i64 qs, .int .i64 qh, .int .i64 qa, .int .i64 qn, .int .i64 fu, .int .i64 fs, .int .i64 fh, .int .i64 fa, .int .i64 fn, .slice A n cap]) := rfl
  rw [HN.out]
  clear HN
  obtain ⟨W0, hW0⟩ : ∃ W, (((w.alloc (.cells #[.int .i64 ru, .int .i64 rs, .int .i64 rh, .int .i64 ra, .int .i64 rn] 107)).alloc (.cells #[.int .i64 st, .int .i64 sh, .int .i64 sd, .int .i64 sp, .int .i64 eu, .int .i64 es, .int .i64 eh, .int .i64 ea, .int .i64 en, .int .i64 fu, .int .i64 fs, .int .i64 fh, .int .i64 fa, .int .i64 fn, .slice A n cap] 32)).alloc (.cells #[.int .i64 xu, .int .i64 xs, .int .i64 xh, .int .i64 xa, .int .i64 xn, .string xt, .bool xp] 43)).alloc (.cells #[.int .i64 0, .int .i64 0, .int .i64 0, .int .i64 0, .int .i64 0, .int .i64 0, .int .i64 0, .int .i64 0, .int .i64 0, .int .i64 0, .int .i64 0, .int .i64 0, .int .i64 0, .int .i64 0, .slice none 0 0] 32) = W := ⟨_, rfl⟩
  have K0 : Hid (Below w.heap.size w W0) := by rw [← hW0]; exact ((((Below.refl _ w).alloc (Nat.le_refl _) _).alloc (by simp; try omega) _).alloc (by simp; try omega) _).alloc (by simp; try omega) _
  have Q0 : Hid (W0.heap[w.heap.size]? = some (.cells #[.int .i64 ru, .int .i64 rs, .int .i64 rh, .int .i64 ra, .int .i64 rn] 107)) := by rw [← hW0]; exact alloc_blk (alloc_blk (heap2a w _ _))
  have Y0 : Hid (W0.heap[w.heap.size + 1]? = some (.cells #[.int .i64 st, .int .i64 sh, .int .i64 sd, .int .i64 sp, .int .i64 eu, .int .i64 es, .int .i64 eh, .int .i64 ea, .int .i64 en, .int .i64 fu, .int .i64 fs, .int .i64 fh, .int .i64 fa, .int .i64 fn, .slice A n cap] 32)) := by rw [← hW0]; exact alloc_blk (alloc_blk (heap2b w _ _))
  have B0 : Hid (W0.heap[w.heap.size + 1 + 1]? = some (.cells #[.int .i64 xu, .int .i64 xs, .int .i64 xh, .int .i64 xa, .int .i64 xn, .string xt, .bool xp] 43)) := by rw [← hW0]; exact alloc_blk (heap3c w _ _ _)
  have R0 : Hid (W0.heap[w.heap.size + 1 + 1 + 1]? = some (.cells #[.int .i64 0, .int .i64 0, .int .i64 0, .int .i64 0, .int .i64 0, .int .i64 0, .int .i64 0, .int .i64 0, .int .i64 0, .int .i64 0, .int .i64 0, .int .i64 0, .int .i64 0, .int .i64 0, .slice none 0 0] 32)) := by
    rw [← hW0]
    have h1 := heap1 (((w.alloc (.cells #[.int .i64 ru, .int .i64 rs, .int .i64 rh, .int .i64 ra, .int .i64 rn] 107)).alloc (.cells #[.int .i64 st, .int .i64 sh, .int .i64 sd, .int .i64 sp, .int .i64 eu, .int .i64 es, .int .i64 eh, .int .i64 ea, .int .i64 en, .int .i64 fu, .int .i64 fs, .int .i64 fh, .int .i64 fa, .int .i64 fn, .slice A n cap] 32)).alloc (.cells #[.int .i64 xu, .int .i64 xs, .int .i64 xh, .int .i64 xa, .int .i64 xn, .string xt, .bool xp] 43)) (.cells #[.int .i64 0, .int .i64 0, .int .i64 0, .int .i64 0, .int .i64 0, .int .i64 0, .int .i64 0, .int .i64 0, .int .i64 0, .int .i64 0, .int .i64 0, .int .i64 0, .int .i64 0, .int .i64 0, .slice none 0 0] 32)
    have hs : (((w.alloc (.cells #[.int .i64 ru, .int .i64 rs, .int .i64 rh, .int .i64 ra, .int .i64 rn] 107)).alloc (.cells #[.int .i64 st, .int .i64 sh, .int .i64 sd, .int .i64 sp, .int .i64 eu, .int .i64 es, .int .i64 eh, .int .i64 ea, .int .i64 en, .int .i64 fu, .int .i64 fs, .int .i64 fh, .int .i64 fa, .int .i64 fn, .slice A n cap] 32)).alloc (.cells #[.int .i64 xu, .int .i64 xs, .int .i64 xh, .int .i64 xa, .int .i64 xn, .string xt, .bool xp] 43)).heap.size = w.heap.size + 1 + 1 + 1 := by simp
    rw [hs] at h1
    exact h1
  go_enter Tryd.func127, Tryd.ntmps127
  obtain ⟨⟨r0, r1, r2, r3, r4⟩, _⟩ := blk5 Q0.out
  obtain ⟨⟨x0, x1, x2, x3, x4, x5, x6⟩, _⟩ := blk7 B0.out

  go_wp2_with fail
  clear r0 r1 r2 r3 r4 x0 x1 x2 x3 x4 x5 x6
  clear hW0
  refine (cT.out _).mono ?_
  rintro e w1 ⟨rfl, hb⟩
  have Q1 := Lib.hid (blk_on hb Q0.out)
  have Y1 := Lib.hid (blk_on hb Y0.out)
  have B1 := Lib.hid (blk_on hb B0.out)
  have R1 := Lib.hid (blk_on hb R0.out)
  have K1 := Lib.hid (K0.out.trans (hb.mono K0.out.size))
  clear hb Q0 Y0 B0 R0 K0
  obtain ⟨V2, hV2⟩ : ∃ V, w1.alloc (.cells #[.int .i64 qu, .int .i64 qs, .int .i64 qh, .int .i64 qa, .int .i64 qn] 29) = V := ⟨_, rfl⟩
  have ltV2Q : w.heap.size < w1.heap.size := blk_in Q1.out
  have ltV2Y : w.heap.size + 1 < w1.heap.size := blk_in Y1.out
  have ltV2B : w.heap.size + 1 + 1 < w1.heap.size := blk_in B1.out
  have ltV2R : w.heap.size + 1 + 1 + 1 < w1.heap.size := blk_in R1.out
  have Q2 : Hid (V2.heap[w.heap.size]? = some (.cells #[.int .i64 ru, .int .i64 rs, .int .i64 rh, .int .i64 ra, .int .i64 rn] 107)) := by rw [← hV2]; exact alloc_blk Q1.out
  have Y2 : Hid (V2.heap[w.heap.size + 1]? = some (.cells #[.int .i64 st, .int .i64 sh, .int .i64 sd, .int .i64 sp, .int .i64 eu, .int .i64 es, .int .i64 eh, .int .i64 ea, .int .i64 en, .int .i64 fu, .int .i64 fs, .int .i64 fh, .int .i64 fa, .int .i64 fn, .slice A n cap] 32)) := by rw [← hV2]; exact alloc_blk Y1.out
  have B2 : Hid (V2.heap[w.heap.size + 1 + 1]? = some (.cells #[.int .i64 xu, .int .i64 xs, .int .i64 xh, .int .i64 xa, .int .i64 xn, .string xt, .bool xp] 43)) := by rw [← hV2]; exact alloc_blk B1.out
  have R2 : Hid (V2.heap[w.heap.size + 1 + 1 + 1]? = some (.cells #[.int .i64 0, .int .i64 0, .int .i64 0, .int .i64 0, .int .i64 0, .int .i64 0, .int .i64 0, .int .i64 0, .int .i64 0, .int .i64 0, .int .i64 0, .int .i64 0, .int .i64 0, .int .i64 0, .slice none 0 0] 32)) := by rw [← hV2]; exact alloc_blk R1.out
  have hb : Below w1.heap.size w1 V2 := by rw [← hV2]; exact (Below.refl _ w1).alloc (Nat.le_refl _) _
  have K2 := Lib.hid (K1.out.trans (hb.mono K1.out.size))
  have T2 : Hid (V2.heap[w1.heap.size]? = some (.cells #[.int .i64 qu, .int .i64 qs, .int .i64 qh, .int .i64 qa, .int .i64 qn] 29)) := by rw [← hV2]; exact heap1 w1 _
  have lbV2 : w.heap.size ≤ w1.heap.size := K1.out.size
  clear hb Q1 Y1 B1 R1 K1
  -- the row is laid, and read again
  obtain ⟨⟨c0, c1, c2, c3, c4⟩, _⟩ := blk5 T2.out
  obtain ⟨⟨d0, d1, d2, d3, d4, d5, d6, d7, d8, d9, d10, d11, d12, d13, d14⟩, dz0, dz1, dz2, dz3, dz4, dz5, dz6, dz7, dz8, dz9, dz10, dz11, dz12, dz13, dz14⟩ := blk15 Y2.out
  obtain ⟨S3, qS3⟩ : ∃ W, setAll V2 (w.heap.size + 1) 4 [.int .i64 qu, .int .i64 qs, .int .i64 qh, .int .i64 qa, .int .i64 qn] = W := ⟨_, rfl⟩
  have hS3 : (((((V2.setCell ⟨w.heap.size + 1, 4, none⟩ (.int .i64 qu)).setCell ⟨w.heap.size + 1, 5, none⟩ (.int .i64 qs)).setCell ⟨w.heap.size + 1, 6, none⟩ (.int .i64 qh)).setCell ⟨w.heap.size + 1, 7, none⟩ (.int .i64 qa)).setCell ⟨w.heap.size + 1, 8, none⟩ (.int .i64 qn)) = S3 := qS3
  have Q3 : Hid (S3.heap[w.heap.size]? = some (.cells #[.int .i64 ru, .int .i64 rs, .int .i64 rh, .int .i64 ra, .int .i64 rn] 107)) := by rw [← qS3]; exact setAll_away (by omega) _ _ Q2.out
  have Y3 : Hid (S3.heap[w.heap.size + 1]? = some (.cells #[.int .i64 st, .int .i64 sh, .int .i64 sd, .int .i64 sp, .int .i64 qu, .int .i64 qs, .int .i64 qh, .int .i64 qa, .int .i64 qn, .int .i64 fu, .int .i64 fs, .int .i64 fh, .int .i64 fa, .int .i64 fn, .slice A n cap] 32)) := by
    rw [← qS3]
    refine (setAll_blk (w := V2) (g := (w.heap.size + 1)) [.int .i64 qu, .int .i64 qs, .int .i64 qh, .int .i64 qa, .int .i64 qn] 4 Y2.out).trans ?_
    refine congrArg (fun z => some (Obj.cells z 32 (0, 0))) (Array.toList_inj.1 ?_)
    rw [overA_toList _ _ _ (by simp)]
    rfl
  have B3 : Hid (S3.heap[w.heap.size + 1 + 1]? = some (.cells #[.int .i64 xu, .int .i64 xs, .int .i64 xh, .int .i64 xa, .int .i64 xn, .string xt, .bool xp] 43)) := by rw [← qS3]; exact setAll_away (by omega) _ _ B2.out
  have R3 : Hid (S3.heap[w.heap.size + 1 + 1 + 1]? = some (.cells #[.int .i64 0, .int .i64 0, .int .i64 0, .int .i64 0, .int .i64 0, .int .i64 0, .int .i64 0, .int .i64 0, .int .i64 0, .int .i64 0, .int .i64 0, .int .i64 0, .int .i64 0, .int .i64 0, .slice none 0 0] 32)) := by rw [← qS3]; exact setAll_away (by omega) _ _ R2.out
  have T3 : Hid (S3.heap[w1.heap.size]? = some (.cells #[.int .i64 qu, .int .i64 qs, .int .i64 qh, .int .i64 qa, .int .i64 qn] 29)) := by rw [← qS3]; exact setAll_away (by omega) _ _ T2.out
  have K3 : Hid (Below w.heap.size w S3) := by rw [← qS3]; exact setAll_below (g := (w.heap.size + 1)) (by omega) [.int .i64 qu, .int .i64 qs, .int .i64 qh, .int .i64 qa, .int .i64 qn] 4 K2.out
  have zS3 : V2.heap.size = S3.heap.size := by rw [← qS3]; exact (setAll_size [.int .i64 qu, .int .i64 qs, .int .i64 qh, .int .i64 qa, .int .i64 qn] 4 _).symm
  clear qS3 Q2 Y2 B2 R2 T2 K2
  go_upto_region 3 with fail
  try rw [hS3]
  clear c0 c1 c2 c3 c4
  clear d0 d1 d2 d3 d4 d5 d6 d7 d8 d9 d10 d11 d12 d13 d14 dz0 dz1 dz2 dz3 dz4 dz5 dz6 dz7 dz8 dz9 dz10 dz11 dz12 dz13 dz14
  clear hS3 hV2
  go_wp2_with (first | (refine wpList_load_row rfl 32 _ rfl (w.heap.size + 1) rfl 32 _ (0, 0) _ Y3.out Tryd.underlying32 rfl (by kernel_rfl) ?_) | (refine wpList_store_row rfl 32 _ _ rfl (w.heap.size + 1 + 1 + 1) #[.int .i64 st, .int .i64 sh, .int .i64 sd, .int .i64 sp, .int .i64 qu, .int .i64 qs, .int .i64 qh, .int .i64 qa, .int .i64 qn, .int .i64 fu, .int .i64 fs, .int .i64 fh, .int .i64 fa, .int .i64 fn, .slice A n cap] rfl rfl 32 _ R3.out (by kernel_rfl) rfl (by simp [Value.oneCell']) ?_))
  exact row_ret3 (r := w.heap.size + 1 + 1 + 1) (cs := #[.int .i64 st, .int .i64 sh, .int .i64 sd, .int .i64 sp, .int .i64 qu, .int .i64 qs, .int .i64 qh, .int .i64 qa, .int .i64 qn, .int .i64 fu, .int .i64 fs, .int .i64 fh, .int .i64 fa, .int .i64 fn, .slice A n cap]) rfl rfl rfl rfl (setRow_heap _ _ _ _ _ _ R3.out) Tryd.underlying32 rfl (by kernel_rfl) rfl ⟨rfl, below_setRow K3.out (by omega) _⟩

set_option maxRecDepth 100000 in
set_option maxHeartbeats 16000000 in
theorem takenIn_f (r : RowV) (s : SeatV) (A : Option Addr) (n cap : Nat) (b : BoxV) (w : World) : Calls Tryd.prog 133 #[r.val, s.val A n cap, b.val] w fun e w' => e = .returned (.tuple #[(({ s with f := takeR r b } : SeatV)).val A n cap, .string (takeT r b), .bool (takeB r b)]) ∧ Below w.heap.size w w' := by
  have cT' := fun w' => Take_impl r b w'
  obtain ⟨⟨⟨qu, qs, qh, qa⟩, qn⟩, hq⟩ : ∃ x, takeR r b = x := ⟨_, rfl⟩
  rw [hq] at cT' ⊢
  clear hq
  generalize takeT r b = tt at cT' ⊢
  generalize takeB r b = tb at cT' ⊢
  obtain ⟨⟨ru, rs, rh, ra⟩, rn⟩ := r
  obtain ⟨⟨xu, xs, xh, xa⟩, xn, xt, xp⟩ := b
  obtain ⟨st, sh, sd, sp, ⟨⟨eu, es, eh, ea⟩, en⟩, ⟨⟨fu, fs, fh, fa⟩, fn⟩⟩ := s
  have HV : Hid (SeatV.val ⟨st, sh, sd, sp, ⟨⟨eu, es, eh, ea⟩, en⟩, ⟨⟨fu, fs, fh, fa⟩, fn⟩⟩ A n cap = .agg #[.int .i64 st, .int .i64 sh, .int .i64 sd, .int .i64 sp, .int .i64 eu, .int .i64 es, .int .i64 eh, .int .i64 ea, .int .i64 en, .int .i64 fu, .int .i64 fs, .int .i64 fh, .int .i64 fa, .int .i64 fn, .slice A n cap]) := rfl
  rw [HV.out]
  have cT : Hid (∀ w' : World, Calls Tryd.prog 128 #[.agg #[.int .i64 ru, .int .i64 rs, .int .i64 rh, .int .i64 ra, .int .i64 rn], .agg #[.int .i64 xu, .int .i64 xs, .int .i64 xh, .int .i64 xa, .int .i64 xn, .string xt, .bool xp]] w' fun e w'' => e = .returned (.tuple #[.agg #[.int .i64 qu, .int .i64 qs, .int .i64 qh, .int .i64 qa, .int .i64 qn], .string tt, .bool tb]) ∧ Below w'.heap.size w' w'') := fun w' => cT' w'
  have HR : Hid (RowV.val ⟨⟨ru, rs, rh, ra⟩, rn⟩ = .agg #[.int .i64 ru, .int .i64 rs, .int .i64 rh, .int .i64 ra, .int .i64 rn]) := rfl
  have HX : Hid (BoxV.val ⟨⟨xu, xs, xh, xa⟩, xn, xt, xp⟩ = .agg #[.int .i64 xu, .int .i64 xs, .int .i64 xh, .int .i64 xa, .int .i64 xn, .string xt, .bool xp]) := rfl
  rw [HR.out, HX.out]
  clear cT' HR HX HV
  have HN : Hid ((({ (⟨st, sh, sd, sp, ⟨⟨eu, es, eh, ea⟩, en⟩, ⟨⟨fu, fs, fh, fa⟩, fn⟩⟩ : SeatV) with f := ⟨⟨qu, qs, qh, qa⟩, qn⟩ } : SeatV)).val A n cap = .agg #[.int .i64 st, .int .i64 sh, .int .i64 sd, .int .i64 sp, .int .i64 eu, .int .i64 es, .int .i64 eh, .int .i64 ea, .int .i64 en, .int .i64 qu, .int .i64 qs, .int .i64 qh, .int .i64 qa, .int .i64 qn, .slice A n cap]) := rfl
  rw [HN.out]
  clear HN
  obtain ⟨W0, hW0⟩ : ∃ W, (((w.alloc (.cells #[.int .i64 ru, .int .i64 rs, .int .i64 rh, .int .i64 ra, .int .i64 rn] 108)).alloc (.cells #[.int .i64 st, .int .i64 sh, .int .i64 sd, .int .i64 sp, .int .i64 eu, .int .i64 es, .int .i64 eh, .int .i64 ea, .int .i64 en, .int .i64 fu, .int .i64 fs, .int .i64 fh, .int .i64 fa, .int .i64 fn, .slice A n cap] 32)).alloc (.cells #[.int .i64 xu, .int .i64 xs, .int .i64 xh, .int .i64 xa, .int .i64 xn, .string xt, .bool xp] 43)).alloc (.cells #[.int .i64 0, .int .i64 0, .int .i64 0, .int .i64 0, .int .i64 0, .int .i64 0, .int .i64 0, .int .i64 0, .int .i64 0, .int .i64 0, .int .i64 0, .int .i64 0, .int .i64 0, .int .i64 0, .slice none 0 0] 32) = W := ⟨_, rfl⟩
  have K0 : Hid (Below w.heap.size w W0) := by rw [← hW0]; exact ((((Below.refl _ w).alloc (Nat.le_refl _) _).alloc (by simp; try omega) _).alloc (by simp; try omega) _).alloc (by simp; try omega) _
  have Q0 : Hid (W0.heap[w.heap.size]? = some (.cells #[.int .i64 ru, .int .i64 rs, .int .i64 rh, .int .i64 ra, .int .i64 rn] 108)) := by rw [← hW0]; exact alloc_blk (alloc_blk (heap2a w _ _))
  have Y0 : Hid (W0.heap[w.heap.size + 1]? = some (.cells #[.int .i64 st, .int .i64 sh, .int .i64 sd, .int .i64 sp, .int .i64 eu, .int .i64 es, .int .i64 eh, .int .i64 ea, .int .i64 en, .int .i64 fu, .int .i64 fs, .int .i64 fh, .int .i64 fa, .int .i64 fn, .slice A n cap] 32)) := by rw [← hW0]; exact alloc_blk (alloc_blk (heap2b w _ _))
  have B0 : Hid (W0.heap[w.heap.size + 1 + 1]? = some (.cells #[.int .i64 xu, .int .i64 xs, .int .i64 xh, .int .i64 xa, .int .i64 xn, .string xt, .bool xp] 43)) := by rw [← hW0]; exact alloc_blk (heap3c w _ _ _)
  have R0 : Hid (W0.heap[w.heap.size + 1 + 1 + 1]? = some (.cells #[.int .i64 0, .int .i64 0, .int .i64 0, .int .i64 0, .int .i64 0, .int .i64 0, .int .i64 0, .int .i64 0, .int .i64 0, .int .i64 0, .int .i64 0, .int .i64 0, .int .i64 0, .int .i64 0, .slice none 0 0] 32)) := by
    rw [← hW0]
    have h1 := heap1 (((w.alloc (.cells #[.int .i64 ru, .int .i64 rs, .int .i64 rh, .int .i64 ra, .int .i64 rn] 108)).alloc (.cells #[.int .i64 st, .int .i64 sh, .int .i64 sd, .int .i64 sp, .int .i64 eu, .int .i64 es, .int .i64 eh, .int .i64 ea, .int .i64 en, .int .i64 fu, .int .i64 fs, .int .i64 fh, .int .i64 fa, .int .i64 fn, .slice A n cap] 32)).alloc (.cells #[.int .i64 xu, .int .i64 xs, .int .i64 xh, .int .i64 xa, .int .i64 xn, .string xt, .bool xp] 43)) (.cells #[.int .i64 0, .int .i64 0, .int .i64 0, .int .i64 0, .int .i64 0, .int .i64 0, .int .i64 0, .int .i64 0, .int .i64 0, .int .i64 0, .int .i64 0, .int .i64 0, .int .i64 0, .int .i64 0, .slice none 0 0] 32)
    have hs : (((w.alloc (.cells #[.int .i64 ru, .int .i64 rs, .int .i64 rh, .int .i64 ra, .int .i64 rn] 108)).alloc (.cells #[.int .i64 st, .int .i64 sh, .int .i64 sd, .int .i64 sp, .int .i64 eu, .int .i64 es, .int .i64 eh, .int .i64 ea, .int .i64 en, .int .i64 fu, .int .i64 fs, .int .i64 fh, .int .i64 fa, .int .i64 fn, .slice A n cap] 32)).alloc (.cells #[.int .i64 xu, .int .i64 xs, .int .i64 xh, .int .i64 xa, .int .i64 xn, .string xt, .bool xp] 43)).heap.size = w.heap.size + 1 + 1 + 1 := by simp
    rw [hs] at h1
    exact h1
  go_enter Tryd.func133, Tryd.ntmps133
  obtain ⟨⟨r0, r1, r2, r3, r4⟩, _⟩ := blk5 Q0.out
  obtain ⟨⟨x0, x1, x2, x3, x4, x5, x6⟩, _⟩ := blk7 B0.out

  go_wp2_with fail
  clear r0 r1 r2 r3 r4 x0 x1 x2 x3 x4 x5 x6
  clear hW0
  refine (cT.out _).mono ?_
  rintro e w1 ⟨rfl, hb⟩
  have Q1 := Lib.hid (blk_on hb Q0.out)
  have Y1 := Lib.hid (blk_on hb Y0.out)
  have B1 := Lib.hid (blk_on hb B0.out)
  have R1 := Lib.hid (blk_on hb R0.out)
  have K1 := Lib.hid (K0.out.trans (hb.mono K0.out.size))
  clear hb Q0 Y0 B0 R0 K0
  obtain ⟨V2, hV2⟩ : ∃ V, w1.alloc (.cells #[.int .i64 qu, .int .i64 qs, .int .i64 qh, .int .i64 qa, .int .i64 qn] 29) = V := ⟨_, rfl⟩
  have ltV2Q : w.heap.size < w1.heap.size := blk_in Q1.out
  have ltV2Y : w.heap.size + 1 < w1.heap.size := blk_in Y1.out
  have ltV2B : w.heap.size + 1 + 1 < w1.heap.size := blk_in B1.out
  have ltV2R : w.heap.size + 1 + 1 + 1 < w1.heap.size := blk_in R1.out
  have Q2 : Hid (V2.heap[w.heap.size]? = some (.cells #[.int .i64 ru, .int .i64 rs, .int .i64 rh, .int .i64 ra, .int .i64 rn] 108)) := by rw [← hV2]; exact alloc_blk Q1.out
  have Y2 : Hid (V2.heap[w.heap.size + 1]? = some (.cells #[.int .i64 st, .int .i64 sh, .int .i64 sd, .int .i64 sp, .int .i64 eu, .int .i64 es, .int .i64 eh, .int .i64 ea, .int .i64 en, .int .i64 fu, .int .i64 fs, .int .i64 fh, .int .i64 fa, .int .i64 fn, .slice A n cap] 32)) := by rw [← hV2]; exact alloc_blk Y1.out
  have B2 : Hid (V2.heap[w.heap.size + 1 + 1]? = some (.cells #[.int .i64 xu, .int .i64 xs, .int .i64 xh, .int .i64 xa, .int .i64 xn, .string xt, .bool xp] 43)) := by rw [← hV2]; exact alloc_blk B1.out
  have R2 : Hid (V2.heap[w.heap.size + 1 + 1 + 1]? = some (.cells #[.int .i64 0, .int .i64 0, .int .i64 0, .int .i64 0, .int .i64 0, .int .i64 0, .int .i64 0, .int .i64 0, .int .i64 0, .int .i64 0, .int .i64 0, .int .i64 0, .int .i64 0, .int .i64 0, .slice none 0 0] 32)) := by rw [← hV2]; exact alloc_blk R1.out
  have hb : Below w1.heap.size w1 V2 := by rw [← hV2]; exact (Below.refl _ w1).alloc (Nat.le_refl _) _
  have K2 := Lib.hid (K1.out.trans (hb.mono K1.out.size))
  have T2 : Hid (V2.heap[w1.heap.size]? = some (.cells #[.int .i64 qu, .int .i64 qs, .int .i64 qh, .int .i64 qa, .int .i64 qn] 29)) := by rw [← hV2]; exact heap1 w1 _
  have lbV2 : w.heap.size ≤ w1.heap.size := K1.out.size
  clear hb Q1 Y1 B1 R1 K1
  -- the row is laid, and read again
  obtain ⟨⟨c0, c1, c2, c3, c4⟩, _⟩ := blk5 T2.out
  obtain ⟨⟨d0, d1, d2, d3, d4, d5, d6, d7, d8, d9, d10, d11, d12, d13, d14⟩, dz0, dz1, dz2, dz3, dz4, dz5, dz6, dz7, dz8, dz9, dz10, dz11, dz12, dz13, dz14⟩ := blk15 Y2.out
  obtain ⟨S3, qS3⟩ : ∃ W, setAll V2 (w.heap.size + 1) 9 [.int .i64 qu, .int .i64 qs, .int .i64 qh, .int .i64 qa, .int .i64 qn] = W := ⟨_, rfl⟩
  have hS3 : (((((V2.setCell ⟨w.heap.size + 1, 9, none⟩ (.int .i64 qu)).setCell ⟨w.heap.size + 1, 10, none⟩ (.int .i64 qs)).setCell ⟨w.heap.size + 1, 11, none⟩ (.int .i64 qh)).setCell ⟨w.heap.size + 1, 12, none⟩ (.int .i64 qa)).setCell ⟨w.heap.size + 1, 13, none⟩ (.int .i64 qn)) = S3 := qS3
  have Q3 : Hid (S3.heap[w.heap.size]? = some (.cells #[.int .i64 ru, .int .i64 rs, .int .i64 rh, .int .i64 ra, .int .i64 rn] 108)) := by rw [← qS3]; exact setAll_away (by omega) _ _ Q2.out
  have Y3 : Hid (S3.heap[w.heap.size + 1]? = some (.cells #[.int .i64 st, .int .i64 sh, .int .i64 sd, .int .i64 sp, .int .i64 eu, .int .i64 es, .int .i64 eh, .int .i64 ea, .int .i64 en, .int .i64 qu, .int .i64 qs, .int .i64 qh, .int .i64 qa, .int .i64 qn, .slice A n cap] 32)) := by
    rw [← qS3]
    refine (setAll_blk (w := V2) (g := (w.heap.size + 1)) [.int .i64 qu, .int .i64 qs, .int .i64 qh, .int .i64 qa, .int .i64 qn] 9 Y2.out).trans ?_
    refine congrArg (fun z => some (Obj.cells z 32 (0, 0))) (Array.toList_inj.1 ?_)
    rw [overA_toList _ _ _ (by simp)]
    rfl
  have B3 : Hid (S3.heap[w.heap.size + 1 + 1]? = some (.cells #[.int .i64 xu, .int .i64 xs, .int .i64 xh, .int .i64 xa, .int .i64 xn, .string xt, .bool xp] 43)) := by rw [← qS3]; exact setAll_away (by omega) _ _ B2.out
  have R3 : Hid (S3.heap[w.heap.size + 1 + 1 + 1]? = some (.cells #[.int .i64 0, .int .i64 0, .int .i64 0, .int .i64 0, .int .i64 0, .int .i64 0, .int .i64 0, .int .i64 0, .int .i64 0, .int .i64 0, .int .i64 0, .int .i64 0, .int .i64 0, .int .i64 0, .slice none 0 0] 32)) := by rw [← qS3]; exact setAll_away (by omega) _ _ R2.out
  have T3 : Hid (S3.heap[w1.heap.size]? = some (.cells #[.int .i64 qu, .int .i64 qs, .int .i64 qh, .int .i64 qa, .int .i64 qn] 29)) := by rw [← qS3]; exact setAll_away (by omega) _ _ T2.out
  have K3 : Hid (Below w.heap.size w S3) := by rw [← qS3]; exact setAll_below (g := (w.heap.size + 1)) (by omega) [.int .i64 qu, .int .i64 qs, .int .i64 qh, .int .i64 qa, .int .i64 qn] 9 K2.out
  have zS3 : V2.heap.size = S3.heap.size := by rw [← qS3]; exact (setAll_size [.int .i64 qu, .int .i64 qs, .int .i64 qh, .int .i64 qa, .int .i64 qn] 9 _).symm
  clear qS3 Q2 Y2 B2 R2 T2 K2
  go_upto_region 3 with fail
  try rw [hS3]
  clear c0 c1 c2 c3 c4
  clear d0 d1 d2 d3 d4 d5 d6 d7 d8 d9 d10 d11 d12 d13 d14 dz0 dz1 dz2 dz3 dz4 dz5 dz6 dz7 dz8 dz9 dz10 dz11 dz12 dz13 dz14
  clear hS3 hV2
  go_wp2_with (first | (refine wpList_load_row rfl 32 _ rfl (w.heap.size + 1) rfl 32 _ (0, 0) _ Y3.out Tryd.underlying32 rfl (by kernel_rfl) ?_) | (refine wpList_store_row rfl 32 _ _ rfl (w.heap.size + 1 + 1 + 1) #[.int .i64 st, .int .i64 sh, .int .i64 sd, .int .i64 sp, .int .i64 eu, .int .i64 es, .int .i64 eh, .int .i64 ea, .int .i64 en, .int .i64 qu, .int .i64 qs, .int .i64 qh, .int .i64 qa, .int .i64 qn, .slice A n cap] rfl rfl 32 _ R3.out (by kernel_rfl) rfl (by simp [Value.oneCell']) ?_))
  exact row_ret3 (r := w.heap.size + 1 + 1 + 1) (cs := #[.int .i64 st, .int .i64 sh, .int .i64 sd, .int .i64 sp, .int .i64 eu, .int .i64 es, .int .i64 eh, .int .i64 ea, .int .i64 en, .int .i64 qu, .int .i64 qs, .int .i64 qh, .int .i64 qa, .int .i64 qn, .slice A n cap]) rfl rfl rfl rfl (setRow_heap _ _ _ _ _ _ R3.out) Tryd.underlying32 rfl (by kernel_rfl) rfl ⟨rfl, below_setRow K3.out (by omega) _⟩

set_option maxRecDepth 100000 in
set_option maxHeartbeats 16000000 in
theorem rows_any (s : SeatV) (A : Option Addr) (n cap : Nat) (w : World) : Calls Tryd.prog 38 #[s.val A n cap] w fun e w' => ∃ g, e = .returned (.slice (some ⟨g, 0, none⟩) 2 2) ∧ w.heap.size ≤ g ∧ w'.heap[g]? = some (.cells #[.iface 107 s.e.val, .iface 108 s.f.val] 79) ∧ Below w.heap.size w w' := by
  obtain ⟨st, sh, sd, sp, ⟨⟨eu, es, eh, ea⟩, en⟩, ⟨⟨fu, fs, fh, fa⟩, fn⟩⟩ := s
  have HV : Hid (SeatV.val ⟨st, sh, sd, sp, ⟨⟨eu, es, eh, ea⟩, en⟩, ⟨⟨fu, fs, fh, fa⟩, fn⟩⟩ A n cap = .agg #[.int .i64 st, .int .i64 sh, .int .i64 sd, .int .i64 sp, .int .i64 eu, .int .i64 es, .int .i64 eh, .int .i64 ea, .int .i64 en, .int .i64 fu, .int .i64 fs, .int .i64 fh, .int .i64 fa, .int .i64 fn, .slice A n cap]) := rfl
  rw [HV.out]
  dsimp only
  have HE : Hid (RowV.val ⟨⟨eu, es, eh, ea⟩, en⟩ = .agg #[.int .i64 eu, .int .i64 es, .int .i64 eh, .int .i64 ea, .int .i64 en]) := rfl
  have HF : Hid (RowV.val ⟨⟨fu, fs, fh, fa⟩, fn⟩ = .agg #[.int .i64 fu, .int .i64 fs, .int .i64 fh, .int .i64 fa, .int .i64 fn]) := rfl
  rw [HE.out, HF.out]
  clear HV HE HF
  obtain ⟨W0, hW0⟩ : ∃ W, w.alloc (.cells #[.int .i64 st, .int .i64 sh, .int .i64 sd, .int .i64 sp, .int .i64 eu, .int .i64 es, .int .i64 eh, .int .i64 ea, .int .i64 en, .int .i64 fu, .int .i64 fs, .int .i64 fh, .int .i64 fa, .int .i64 fn, .slice A n cap] 32) = W := ⟨_, rfl⟩
  have K0 : Hid (Below w.heap.size w W0) := by rw [← hW0]; exact (Below.refl _ w).alloc (Nat.le_refl _) _
  have S0 : Hid (W0.heap[w.heap.size]? = some (.cells #[.int .i64 st, .int .i64 sh, .int .i64 sd, .int .i64 sp, .int .i64 eu, .int .i64 es, .int .i64 eh, .int .i64 ea, .int .i64 en, .int .i64 fu, .int .i64 fs, .int .i64 fh, .int .i64 fa, .int .i64 fn, .slice A n cap] 32)) := by rw [← hW0]; exact heap1 w _
  go_enter Tryd.func38, Tryd.ntmps38
  obtain ⟨⟨a0, a1, a2, a3, a4, a5, a6, a7, a8, a9, a10, a11, a12, a13, a14⟩, _⟩ := blk15 S0.out
  go_wp2_with fail
  go_ret
  exact ⟨_, rfl, K0.out.size, heap1 _ _, K0.out.alloc K0.out.size _⟩

end Go.Proofs.YtchdmmlkgglmcaaDoor.Tx
