/-
  What == says of two keys (and of two arrays of two numbers, where the program has that type). No conditions.
-/
import Derived.WalkKit
import Derived.ChangeKeysEq
import Derived.Lib.Hide
import Derived.Test.YtakhjdodljhfmaaKey0
import Derived.Test.YtakhjdodljhfmaaProg
namespace Go.Proofs.Ytakhjdodljhfmaa.Tx
open Go.RowKit

/-- Are they the same? -/
def KeyV.same (k l : KeyV) : Bool := k.u == l.u && (k.s == l.s && (k.h == l.h && k.a == l.a))
theorem KeyV.same_iff {k l : KeyV} : k.same l = true ↔ k = l := by
  obtain ⟨u, s, h, a⟩ := k
  obtain ⟨u', s', h', a'⟩ := l
  simp [KeyV.same]
theorem KeyV.same_self (k : KeyV) : k.same k = true := KeyV.same_iff.2 rfl
theorem KeyV.same_not {k l : KeyV} (h : k ≠ l) : k.same l = false := by
  cases e : k.same l with
  | false => rfl
  | true => exact absurd (KeyV.same_iff.1 e) h

theorem eq_key (k l : KeyV) (w : World) : (Op.equalIn 10000 61 k.val l.val).run Try.prog w = .ok (k.same l) w := by
  obtain ⟨u, s, h, a⟩ := k
  obtain ⟨u', s', h', a'⟩ := l
  unfold KeyV.val KeyV.same
  cases h1 : u == u'
  · simp [go_sem, h1]
  cases h2 : s == s'
  · simp [go_sem, h1, h2]
  cases h3 : h == h'
  · simp [go_sem, h1, h2, h3]
  cases h4 : a == a' <;> simp [go_sem, h1, h2, h3, h4]

theorem eq_agg (u s h a u' s' h' a' : Int) (w : World) : (Op.equalIn 10000 61 (.agg #[.int .i64 u, .int .i64 s, .int .i64 h, .int .i64 a]) (.agg #[.int .i64 u', .int .i64 s', .int .i64 h', .int .i64 a'])).run Try.prog w = .ok (KeyV.same ⟨u, s, h, a⟩ ⟨u', s', h', a'⟩) w := eq_key ⟨u, s, h, a⟩ ⟨u', s', h', a'⟩ w


end Go.Proofs.Ytakhjdodljhfmaa.Tx
