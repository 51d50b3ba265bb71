/-
  Where functions of Go's library lie in this program, so that their contracts serve here. No condition.
  What strconv.FormatInt answers at base ten. Conditions: the number is an int64; the library's table of powers of ten holds what its text lays in it.
-/
import Derived.Shelf.Strconv.Itoa4
import Derived.Test.YtchdmmlkgglmcaaGreatDoorProg
import Derived.Test.YtchdmmlkgglmcaaGreatDoorDigFacts
import Derived.Lib.AppendIntMem
namespace Go.Proofs.YtchdmmlkgglmcaaGreatDoor.Tx
open Go.Shelf
def fmtL_ren : Go.Shelf.Ren := ⟨fun | 173 => 85 | 246 => 86 | 283 => 87 | 284 => 88 | 285 => 89 | 286 => 90 | 129 => 92 | 317 => 91 | 318 => 93 | 319 => 94 | 320 => 95 | 337 => 96 | 338 => 97 | n => n, fun | 2 => 2 | 3 => 3 | 9 => 9 | 4 => 4 | 171 => 125 | 0 => 0 | 53 => 126 | 37 => 22 | 5 => 5 | 173 => 129 | 212 => 133 | 51 => 134 | 20 => 20 | 213 => 135 | 46 => 102 | 232 => 139 | 233 => 140 | n => n, fun | 17 => 0 | 18 => 1 | 19 => 2 | n => n⟩
theorem fmtL : Go.Proofs.LaysM.n173 Tryz.prog fmtL_ren := {
  mixed := by kernel_rfl
  f129 := Tryz.func92.trans (congrArg some (by kernel_rfl))
  f173 := Tryz.func85.trans (congrArg some (by kernel_rfl))
  f246 := Tryz.func86.trans (congrArg some (by kernel_rfl))
  f283 := Tryz.func87.trans (congrArg some (by kernel_rfl))
  f284 := Tryz.func88.trans (congrArg some (by kernel_rfl))
  f285 := Tryz.func89.trans (congrArg some (by kernel_rfl))
  f286 := Tryz.func90.trans (congrArg some (by kernel_rfl))
  f317 := Tryz.func91.trans (congrArg some (by kernel_rfl))
  f318 := Tryz.func93.trans (congrArg some (by kernel_rfl))
  f319 := Tryz.func94.trans (congrArg some (by kernel_rfl))
  f320 := Tryz.func95.trans (congrArg some (by kernel_rfl))
  f337 := Tryz.func96.trans (congrArg some (by kernel_rfl))
  f338 := Tryz.func97.trans (congrArg some (by kernel_rfl))
  t0 := Tryz.underlying0
  a0 := Tryz.isAgg0
  z0 := Tryz.sizeOf0
  v0 := Tryz.zeroValue0
  t2 := Tryz.underlying2
  a2 := Tryz.isAgg2
  z2 := Tryz.sizeOf2
  v2 := Tryz.zeroValue2
  t3 := Tryz.underlying3
  a3 := Tryz.isAgg3
  z3 := Tryz.sizeOf3
  v3 := Tryz.zeroValue3
  t4 := Tryz.underlying4
  a4 := Tryz.isAgg4
  z4 := Tryz.sizeOf4
  v4 := Tryz.zeroValue4
  t5 := Tryz.underlying5
  a5 := Tryz.isAgg5
  z5 := Tryz.sizeOf5
  v5 := Tryz.zeroValue5
  t9 := Tryz.underlying9
  a9 := Tryz.isAgg9
  z9 := Tryz.sizeOf9
  v9 := Tryz.zeroValue9
  t20 := Tryz.underlying20
  a20 := Tryz.isAgg20
  z20 := Tryz.sizeOf20
  v20 := Tryz.zeroValue20
  t37 := Tryz.underlying22
  a37 := Tryz.isAgg22
  z37 := Tryz.sizeOf22
  v37 := Tryz.zeroValue22
  t46 := Tryz.underlying102
  a46 := Tryz.isAgg102
  z46 := Tryz.sizeOf102
  v46 := Tryz.zeroValue102
  t51 := Tryz.underlying134
  a51 := Tryz.isAgg134
  z51 := Tryz.sizeOf134
  v51 := Tryz.zeroValue134
  t53 := Tryz.underlying126
  a53 := Tryz.isAgg126
  z53 := Tryz.sizeOf126
  v53 := Tryz.zeroValue126
  t171 := Tryz.underlying125
  a171 := Tryz.isAgg125
  z171 := Tryz.sizeOf125
  v171 := Tryz.zeroValue125
  t173 := Tryz.underlying129
  a173 := Tryz.isAgg129
  z173 := Tryz.sizeOf129
  v173 := Tryz.zeroValue129
  t212 := Tryz.underlying133
  a212 := Tryz.isAgg133
  z212 := Tryz.sizeOf133
  v212 := Tryz.zeroValue133
  t213 := Tryz.underlying135
  a213 := Tryz.isAgg135
  z213 := Tryz.sizeOf135
  t232 := Tryz.underlying139
  a232 := Tryz.isAgg139
  z232 := Tryz.sizeOf139
  v232 := Tryz.zeroValue139
  t233 := Tryz.underlying140
  a233 := Tryz.isAgg140
  z233 := Tryz.sizeOf140
  v233 := Tryz.zeroValue140
  g17 := by kernel_rfl
  g18 := by kernel_rfl
  g19 := by kernel_rfl
  i0 := by kernel_rfl
  i2 := by kernel_rfl
  i3 := by kernel_rfl
  i4 := by kernel_rfl
  i5 := by kernel_rfl
  i9 := by kernel_rfl
  i20 := by kernel_rfl
  i37 := by kernel_rfl
  i46 := by kernel_rfl
  i51 := by kernel_rfl
  i53 := by kernel_rfl
  i171 := by kernel_rfl
  i173 := by kernel_rfl
  i212 := by kernel_rfl
  i232 := by kernel_rfl
  i233 := by kernel_rfl
  m17 := by kernel_rfl
  m18 := by kernel_rfl
  m19 := by kernel_rfl }
end Go.Proofs.YtchdmmlkgglmcaaGreatDoor.Tx
namespace Go.Proofs.YtchdmmlkgglmcaaGreatDoor.Tx
open Go.RowKit

/-- The table of powers of ten holds what the library's text lays in it. -/
def Tab (w : World) : Prop := Lib.TabIs Tryz.prog w "internal/strconv.uint64pow10" .u64 Lib.pow10Tab
theorem Tab.on {w w' : World} (h : Tab w) (b : Below w.heap.size w w') : Tab w' := Lib.tabBelow_of_tabIs h w' b

theorem dec_lib : ∀ n k : Nat, k < n → 0 < k → digL k = Lib.decDigits k
  | 0, _, h, _ => absurd h (Nat.not_lt_zero _)
  | n + 1, k, h, h0 => by
    rw [digL_pos h0, Lib.decDigits]
    by_cases hk : k < 10
    · rw [dif_pos hk, Nat.div_eq_of_lt hk, digL_zero, Nat.mod_eq_of_lt hk]; rfl
    · rw [dif_neg hk, dec_lib n (k / 10) (by omega) (by omega)]
theorem decL_lib (k : Nat) : decL k = Lib.decDigits k := by
  by_cases h : k = 0
  · subst h; rw [decL_zero, Lib.decDigits]; rfl
  · rw [decL_pos (by omega)]; exact dec_lib (k + 1) k (by omega) (by omega)
theorem int_lib (n : Int) : (⟨(Lib.itoa n).toArray⟩ : ByteArray) = intT n := by
  have e : Lib.itoa n = (intT n).data.toList := by
    unfold Lib.itoa intT
    by_cases h : n < 0
    · rw [if_pos h, if_pos h, bytes_app, ← decL_lib]; rfl
    · rw [if_neg h, if_neg h, ← decL_lib]
      have : n.toNat = n.natAbs := by omega
      rw [this]; rfl
  rw [e]

theorem fmt_any (n : Int) (h : I64 n) (w : World) (ht : Tab w) : Calls Tryz.prog 85 #[.int .i64 n, .int .i64 10] w fun e w' => e = .returned (.string (intT n)) ∧ Below w.heap.size w w' :=
  (Any.strconv_FormatInt_10 fmtL n h.1 h.2 w ht).mono fun _ _ ⟨he, k, os, hw⟩ => ⟨by rw [he, int_lib], hw ▸ Lib.below_grow _ _ (Nat.le_refl _) k os⟩

end Go.Proofs.YtchdmmlkgglmcaaGreatDoor.Tx
