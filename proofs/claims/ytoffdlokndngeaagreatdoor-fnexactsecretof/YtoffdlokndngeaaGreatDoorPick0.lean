/-
  Plain facts on what is picked. Nothing of the program is named here. No conditions.
-/
import Derived.Test.YtoffdlokndngeaaGreatDoorUnseal
import Derived.Test.YtoffdlokndngeaaGreatDoorTokFacts
import Derived.Test.YtoffdlokndngeaaGreatDoorHello3
import Derived.Test.YtoffdlokndngeaaGreatDoorMem0
namespace Go.Proofs.YtoffdlokndngeaaGreatDoor.Tx

/-- The token that a greeting has. -/
def tokenInO (inn : Int) (q : HelV) (now : Int) : Option TokV :=
  if helOkB q then (unsealO inn q.x).bind fun t => if freshB t now && bindsB q t.s then some t else none else none
theorem tokenIn_bad {inn : Int} {q : HelV} {now : Int} (h : helOkB q = false) : tokenInO inn q now = none := by rw [tokenInO, h]; rfl
theorem tokenIn_none {inn : Int} {q : HelV} {now : Int} (h : unsealO inn q.x = none) : tokenInO inn q now = none := by rw [tokenInO, h]; split <;> rfl
theorem tokenIn_stale {inn : Int} {q : HelV} {now : Int} {t : TokV} (h : unsealO inn q.x = some t) (hf : freshB t now = false) : tokenInO inn q now = none := by
  rw [tokenInO, h, Option.bind_some, hf]; split <;> rfl
theorem tokenIn_other {inn : Int} {q : HelV} {now : Int} {t : TokV} (h : unsealO inn q.x = some t) (hf : bindsB q t.s = false) : tokenInO inn q now = none := by
  rw [tokenInO, h, Option.bind_some, hf, Bool.and_false]; split <;> rfl
theorem tokenIn_some {inn : Int} {q : HelV} {now : Int} {t : TokV} (h0 : helOkB q = true) (h : unsealO inn q.x = some t) (hf : freshB t now = true) (hb : bindsB q t.s = true) : tokenInO inn q now = some t := by
  rw [tokenInO, h0, h, Option.bind_some, hf, hb]; rfl
theorem tokenIn_has {inn : Int} {q : HelV} {now : Int} {t : TokV} (h : tokenInO inn q now = some t) : helOkB q = true ∧ unsealO inn q.x = some t ∧ freshB t now = true ∧ bindsB q t.s = true := by
  unfold tokenInO at h
  split at h
  · rename_i h0
    rw [Option.bind_eq_some_iff] at h
    obtain ⟨t', h1, h2⟩ := h
    split at h2
    · rename_i h3
      injection h2 with h2
      subst h2
      rw [Bool.and_eq_true] at h3
      exact ⟨h0, h1, h3.1, h3.2⟩
    · cases h2
  · cases h
/-- When was it said? -/
def saidI (q : HelV) (t : TokV) : Int := if helOkB q && (tokOkB t && inB (t.b + q.g) 0 100000) then t.b + q.g else -1
/-- May its early words be heard? -/
def earlyB (zs : List Int) (since : Int) (q : HelV) (now wish : Int) (t : TokV) : Bool := q.ea && (wish == 0 && hearI zs since q.d (saidI q t) now == 0)
def askedB (inn : Int) (zs : List Int) (since : Int) (q : HelV) (now wish : Int) : Bool := isDrawB inn && (memB zs since && (helOkB q && (inB now 0 100000 && inB wish 0 3)))
/-- What is picked. -/
def pickI (inn : Int) (zs : List Int) (since : Int) (q : HelV) (now wish : Int) : Int :=
  if askedB inn zs since q now wish = false then 0
  else if (wish == 3 && !q.ag) = true then 4
  else match tokenInO inn q now with
    | none => 1
    | some t => if 1 < wish then 1 else if earlyB zs since q now wish t = true then 3 else 2
/-- The secret of what is picked. -/
def secretI (inn : Int) (q : HelV) (now pick : Int) : Int := match tokenInO inn q now with
  | none => 0
  | some t => if pick = 2 ∨ pick = 3 then t.s else 0

end Go.Proofs.YtoffdlokndngeaaGreatDoor.Tx
