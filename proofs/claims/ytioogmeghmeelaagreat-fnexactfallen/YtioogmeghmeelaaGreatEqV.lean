/-
  What == says of two keys (and of two arrays of two numbers, where the program has that type). No conditions.
-/
import Derived.WalkKit
import Derived.ChangeKeysEq
import Derived.Lib.Hide
import Derived.Test.YtioogmeghmeelaaGreatKey0
import Derived.Test.YtioogmeghmeelaaGreatProg
namespace Go.Proofs.YtioogmeghmeelaaGreat.Tx
open Go.RowKit

/-- Are they the same? -/
def KeyV.same (k l : KeyV) : Bool := k.u == l.u && (k.s == l.s && (k.h == l.h && k.a == l.a))
theorem KeyV.same_iff {k l : KeyV} : k.same l = true ↔ k = l := by
  obtain ⟨u, s, h, a⟩ := k
  obtain ⟨u', s', h', a'⟩ := l
  simp [KeyV.same]
theorem KeyV.same_self (k : KeyV) : k.same k = true := KeyV.same_iff.2 rfl
theorem KeyV.same_not {k l : KeyV} (h : k ≠ l) : k.same l = false := by
  cases e : k.same l with
  | false => rfl
  | true => exact absurd (KeyV.same_iff.1 e) h

theorem eq_key (k l : KeyV) (w : World) : (Op.equalIn 10000 63 k.val l.val).run Tryz.prog w = .ok (k.same l) w := by
  obtain ⟨u, s, h, a⟩ := k
  obtain ⟨u', s', h', a'⟩ := l
  unfold KeyV.val KeyV.same
  cases h1 : u == u'
  · simp [go_sem, h1]
  cases h2 : s == s'
  · simp [go_sem, h1, h2]
  cases h3 : h == h'
  · simp [go_sem, h1, h2, h3]
  cases h4 : a == a' <;> simp [go_sem, h1, h2, h3, h4]

theorem eq_agg (u s h a u' s' h' a' : Int) (w : World) : (Op.equalIn 10000 63 (.agg #[.int .i64 u, .int .i64 s, .int .i64 h, .int .i64 a]) (.agg #[.int .i64 u', .int .i64 s', .int .i64 h', .int .i64 a'])).run Tryz.prog w = .ok (KeyV.same ⟨u, s, h, a⟩ ⟨u', s', h', a'⟩) w := eq_key ⟨u, s, h, a⟩ ⟨u', s', h', a'⟩ w

theorem eq_two (x y x' y' : Int) (w : World) : (Op.equalIn 10000 155 (.agg #[.int .i64 x, .int .i64 y]) (.agg #[.int .i64 x', .int .i64 y'])).run Tryz.prog w = .ok (x == x' && y == y') w := by
  obtain ⟨i, hi⟩ := Option.isSome_iff_exists.1 (show (Tryz.prog.info? 153).isSome = true by kernel_rfl)
  have hc : Tryz.prog.cellsOf 153 = 1 := by kernel_rfl
  rw [run_equalIn_array w 9999 (n := 2) (e := 153) _ _ (by kernel_rfl) hi]
  clear hi
  cases h1 : x == x'
  · simp [go_sem, Op.eqItems, List.range_succ, h1]
  · cases h2 : y == y' <;> simp [go_sem, Op.eqItems, List.range_succ, h1, h2, hc]

end Go.Proofs.YtioogmeghmeelaaGreat.Tx
