/-
  What the program's sealedBy and NewToken answer: the token, or, where something would not be right, the zero token and false, by way of a panic that the face recovers. Conditions: the numbers are int64; the library's table of powers of ten holds what its text lays in it.
-/
import Derived.Defers
import Derived.Recover
import Derived.Test.YtoffdlokndngeaaGreatDoorImpl6b
namespace Go.Proofs.YtoffdlokndngeaaGreatDoor.Tx
open Go.RowKit

/-- How the inner call ends. -/
def endOf (o : Option TokV) : Ending := match o with | some t => .returned t.val | none => .panicked [{ v := gaveUp, recovered := false }]
def newTokO (inn s b l m : Int) : Option TokV := if newTokB inn s b l m then some (newTokV inn s b l m) else none
theorem newTokO_val (inn s b l m : Int) : (newTokO inn s b l m).getD .zero = newTokV inn s b l m ∧ (newTokO inn s b l m).isSome = newTokB inn s b l m := by
  unfold newTokO
  cases h : newTokB inn s b l m with
  | false => exact ⟨(newTok_false h).symm, rfl⟩
  | true => exact ⟨rfl, rfl⟩

/-- Two results in blocks: a token and a flag. -/
theorem results_two {fn : Func} {tmps : Array Value} {w : World} {r r' : Nat} {p p' : Tmp} {t t' : TypeId} {cs : Array Value} {x : Bool} (hres : fn.results = #[.cell p 39, .cell p' 4]) (hp : tmps.getD p undef = .pointer (some ⟨r, 0, none⟩)) (hp' : tmps.getD p' undef = .pointer (some ⟨r', 0, none⟩))
    (hblk : w.heap[r]? = some (.cells cs t (0, 0))) (hi : (Tryz.prog.info? 39).map (·.size) = some cs.size) (hblk' : w.heap[r']? = some (.cells #[.bool x] t' (0, 0))) :
    (results fn tmps).run Tryz.prog w = .ok (.tuple #[.agg cs, .bool x]) w := by
  have h1 : tmps[p]?.getD undef = .pointer (some ⟨r, 0, none⟩) := by simpa using hp
  have h2 : tmps[p']?.getD undef = .pointer (some ⟨r', 0, none⟩) := by simpa using hp'
  have h3 : w.cell? ⟨r', 0, none⟩ = some (.bool x) := blk_cell hblk' 0
  have h4 : (loadVar 4 ⟨r', 0, none⟩).run Tryz.prog w = .ok (.bool x) w := by simp [go_sem, h3]
  simp [results, hres, h1, h2, asAddr, run_loadVar_row w r t 39 cs (0, 0) _ hblk Tryz.underlying39 rfl hi, h4]

theorem catch_idle (p q : Addr) (w : World) : CallsD Tryz.prog 101 #[.pointer (some p), .pointer (some q)] .returning w fun e u' w' => e = .returned (.tuple #[]) ∧ u' = .returning ∧ w' = w := by
  refine callsD_of_wpS Tryz.func101 rfl fun c₀ cs hu => ?_
  apply wpS_seq
  apply wpS_region
  simp [wpOpsS, go_sem, recoverD, hu, Tryz.ntmps101, Exit.thenS]
  refine wpS_cond (t := false) (by simp [Act.eval, Array.replicate]) ?_
  simp only [Bool.false_eq_true, if_false]
  refine wpS_of_wp (wp_skip ?_)
  cases c₀
  simp_all [bodyPostS, results, Tryz.results101]

set_option maxHeartbeats 4000000 in
theorem catch_panic (g : Nat) (v0 v1 v2 v3 v4 v5 v6 v7 v8 v9 v10 : Value) (x : Value) (u : TypeId) (pv : Value) (older : List PanicEntry) (w : World) (hg : w.heap[g]? = some (.cells #[v0, v1, v2, v3, v4, v5, v6, v7, v8, v9, v10] 39)) (hq : w.heap[g + 1]? = some (.cells #[x] 4)) :
    CallsD Tryz.prog 101 #[.pointer (some ⟨g, 0, none⟩), .pointer (some ⟨g + 1, 0, none⟩)] (.panicking ({ v := .iface u pv, recovered := false } :: older)) w fun e u' w' =>
      e = .returned (.tuple #[]) ∧ u' = .panicking ({ v := .iface u pv, recovered := true } :: older) ∧ w' = (setAll w g 0 TokV.zero.cells).setCell ⟨g + 1, 0, none⟩ (.bool false) := by
  obtain ⟨⟨c0, c1, c2, c3, c4, c5, c6, c7, c8, c9, c10⟩, f0, f1, f2, f3, f4, f5, f6, f7, f8, f9, f10⟩ := blk11 hg
  have q0 := blk_cell hq 0
  have q1 := blk_frozen hq 0
  refine callsD_of_wpS Tryz.func101 rfl fun c₀ cs hu => ?_
  apply wpS_seq
  apply wpS_region
  simp [wpOpsS, go_sem, recoverD, hu, Tryz.ntmps101, Exit.thenS]
  refine wpS_cond (t := true) (by simp [Act.eval, Array.replicate]) ?_
  simp only [if_true]
  refine wpS_of_wp ?_
  go_wp2
  change bodyPostS _ _ _ _ _ _ _ _ ((setAll w g 0 TokV.zero.cells).setCell ⟨g + 1, 0, none⟩ (.bool false))
  generalize (setAll w g 0 TokV.zero.cells).setCell ⟨g + 1, 0, none⟩ (.bool false) = V
  simp [bodyPostS, results, Tryz.results101]

set_option maxHeartbeats 4000000 in
/-- The face, where the inner call hands back a token, and where it gives up. -/
theorem face_old (cap : Array Value) (o : Option TokV) (w : World) (hc : ∀ w', Below w.heap.size w w' → Calls Tryz.prog 69 cap w' fun e w'' => e = endOf o ∧ Below w'.heap.size w' w'') :
    Calls Tryz.prog 68 #[.func (.func 69) #[] cap] w fun e w' => e = .returned (.tuple #[(o.getD .zero).val, .bool o.isSome]) ∧ Below w.heap.size w w' := by
  have hmf : ∀ (fn : Fn) (first cap : Array Value) (w : World), (Instr.makeFunc fn first cap).run Tryz.prog w = .ok (.func fn first cap) w := fun _ _ _ _ => rfl
  obtain ⟨W, hW⟩ : ∃ W, (w.alloc (.cells #[.int .i64 0, .int .i64 0, .int .i64 0, .int .i64 0, .int .i64 0, .int .i64 0, .int .i64 0, .int .i64 0, .int .i64 0, .string ⟨#[]⟩, .bool false] 39)).alloc (.cells #[.bool false] 4) = W := ⟨_, rfl⟩
  have K : Hid (Below w.heap.size w W) := by rw [← hW]; exact ((Below.refl _ w).alloc (Nat.le_refl _) _).alloc (by simp) _
  have R : Hid (W.heap[w.heap.size]? = some (.cells #[.int .i64 0, .int .i64 0, .int .i64 0, .int .i64 0, .int .i64 0, .int .i64 0, .int .i64 0, .int .i64 0, .int .i64 0, .string ⟨#[]⟩, .bool false] 39)) := by rw [← hW]; exact heap2a w _ _
  have F : Hid (W.heap[w.heap.size + 1]? = some (.cells #[.bool false] 4)) := by rw [← hW]; exact heap2b w _ _
  have HC := Lib.hid hc
  clear hc
  go_enter_defers Tryz.func68, Tryz.ntmps68
  go_wp2_with fail
  clear hW
  cases o with
  | none =>
    refine (HC.out W K.out).mono ?_
    rintro e w1 ⟨rfl, b1⟩
    have R1 := Lib.hid (blk_on b1 R.out)
    have F1 := Lib.hid (blk_on b1 F.out)
    have K1 := Lib.hid (K.out.trans (b1.mono K.out.size))
    clear b1 R F K
    have HE : Hid (endOf none = .panicked [{ v := gaveUp, recovered := false }]) := rfl
    rw [HE.out]
    go_wp2
    refine leaves_cons (f := 101) (args := #[.pointer (some ⟨w.heap.size, 0, none⟩), .pointer (some ⟨w.heap.size + 1, 0, none⟩)]) (by simp) (by simp [go_sem]) ?_
    refine (catch_panic w.heap.size _ _ _ _ _ _ _ _ _ _ _ (.bool false) _ _ [] w1 R1.out F1.out).mono ?_
    rintro e u' w2 ⟨rfl, rfl, rfl⟩
    have hb1 : (setAll w1 w.heap.size 0 TokV.zero.cells).heap[w.heap.size]? = some (.cells TokV.zero.cells.toArray 39) := setAll_whole R1.out rfl
    have hf1 : (setAll w1 w.heap.size 0 TokV.zero.cells).heap[w.heap.size + 1]? = some (.cells #[.bool false] 4) := setAll_away (by omega) _ 0 F1.out
    have kb : Below w.heap.size w (setAll w1 w.heap.size 0 TokV.zero.cells) := setAll_below (Nat.le_refl _) _ 0 K1.out
    generalize setAll w1 w.heap.size 0 TokV.zero.cells = V at hb1 hf1 kb ⊢
    have hb2 : (V.setCell ⟨w.heap.size + 1, 0, none⟩ (.bool false)).heap[w.heap.size]? = some (.cells TokV.zero.cells.toArray 39) := (Below.heap_setCell V ⟨w.heap.size + 1, 0, none⟩ (.bool false) w.heap.size (by show w.heap.size ≠ w.heap.size + 1; omega)).trans hb1
    have hf2 : (V.setCell ⟨w.heap.size + 1, 0, none⟩ (.bool false)).heap[w.heap.size + 1]? = some (.cells #[.bool false] 4) := setAll_whole (vs := [.bool false]) hf1 rfl
    have kb2 : Below w.heap.size w (V.setCell ⟨w.heap.size + 1, 0, none⟩ (.bool false)) := kb.setCell (p := ⟨w.heap.size + 1, 0, none⟩) (by show w.heap.size ≤ w.heap.size + 1; omega) _
    generalize V.setCell ⟨w.heap.size + 1, 0, none⟩ (.bool false) = V2 at hb2 hf2 kb2 ⊢
    exact ⟨_, results_two rfl rfl rfl hb2 (by kernel_rfl) hf2, rfl, kb2⟩
  | some t =>
    obtain ⟨ts, tb, tl, tm, ⟨⟨xu, xs, xh, xa⟩, xn, xt, xp⟩⟩ := t
    obtain ⟨C, hC⟩ : ∃ C : List Value, TokV.cells ⟨ts, tb, tl, tm, ⟨⟨xu, xs, xh, xa⟩, xn, xt, xp⟩⟩ = C := ⟨_, rfl⟩
    have HCS := Lib.hid hC
    clear hC
    refine (HC.out W K.out).mono ?_
    rintro e w1 ⟨rfl, b1⟩
    have R1 := Lib.hid (blk_on b1 R.out)
    have F1 := Lib.hid (blk_on b1 F.out)
    have K1 := Lib.hid (K.out.trans (b1.mono K.out.size))
    clear b1 R F K
    have HV : Hid (endOf (some ⟨ts, tb, tl, tm, ⟨⟨xu, xs, xh, xa⟩, xn, xt, xp⟩⟩) = .returned (.agg #[.int .i64 ts, .int .i64 tb, .int .i64 tl, .int .i64 tm, .int .i64 xu, .int .i64 xs, .int .i64 xh, .int .i64 xa, .int .i64 xn, .string xt, .bool xp])) := rfl
    rw [HV.out]
    obtain ⟨⟨c0, c1, c2, c3, c4, c5, c6, c7, c8, c9, c10⟩, f0, f1, f2, f3, f4, f5, f6, f7, f8, f9, f10⟩ := blk11 R1.out
    have q0 : w1.cell? ⟨w.heap.size + 1, 0, none⟩ = some (.bool false) := blk_cell F1.out 0
    have q1 := blk_frozen F1.out 0
    go_wp2
    refine leaves_cons (f := 101) (args := #[.pointer (some ⟨w.heap.size, 0, none⟩), .pointer (some ⟨w.heap.size + 1, 0, none⟩)]) (by simp) (by simp [go_sem]) ?_
    refine (catch_idle ⟨w.heap.size, 0, none⟩ ⟨w.heap.size + 1, 0, none⟩ _).mono ?_
    rintro e u' w2 ⟨rfl, rfl, rfl⟩
    change Leaves _ _ _ _ _ _ ((setAll w1 w.heap.size 0 (TokV.cells ⟨ts, tb, tl, tm, ⟨⟨xu, xs, xh, xa⟩, xn, xt, xp⟩⟩)).setCell ⟨w.heap.size + 1, 0, none⟩ (.bool true))
    rw [HCS.out]
    have hlen : C.length = 11 := by rw [← HCS.out]; rfl
    have hb1 : (setAll w1 w.heap.size 0 C).heap[w.heap.size]? = some (.cells C.toArray 39) := setAll_whole R1.out (by rw [hlen]; rfl)
    have hf1 : (setAll w1 w.heap.size 0 C).heap[w.heap.size + 1]? = some (.cells #[.bool false] 4) := setAll_away (by omega) _ 0 F1.out
    have kb : Below w.heap.size w (setAll w1 w.heap.size 0 C) := setAll_below (Nat.le_refl _) _ 0 K1.out
    generalize setAll w1 w.heap.size 0 C = V at hb1 hf1 kb ⊢
    have hb2 : (V.setCell ⟨w.heap.size + 1, 0, none⟩ (.bool true)).heap[w.heap.size]? = some (.cells C.toArray 39) := (Below.heap_setCell V ⟨w.heap.size + 1, 0, none⟩ (.bool true) w.heap.size (by show w.heap.size ≠ w.heap.size + 1; omega)).trans hb1
    have hf2 : (V.setCell ⟨w.heap.size + 1, 0, none⟩ (.bool true)).heap[w.heap.size + 1]? = some (.cells #[.bool true] 4) := setAll_whole (vs := [.bool true]) hf1 rfl
    have kb2 : Below w.heap.size w (V.setCell ⟨w.heap.size + 1, 0, none⟩ (.bool true)) := kb.setCell (p := ⟨w.heap.size + 1, 0, none⟩) (by show w.heap.size ≤ w.heap.size + 1; omega) _
    generalize V.setCell ⟨w.heap.size + 1, 0, none⟩ (.bool true) = V2 at hb2 hf2 kb2 ⊢
    exact ⟨_, results_two rfl rfl rfl hb2 (by rw [List.size_toArray, hlen]; kernel_rfl) hf2, by rw [← HCS.out]; rfl, kb2⟩

end Go.Proofs.YtoffdlokndngeaaGreatDoor.Tx
