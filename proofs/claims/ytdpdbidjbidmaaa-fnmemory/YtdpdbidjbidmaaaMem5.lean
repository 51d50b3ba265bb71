/-
  What the model's MayHear and Noted answer. Condition: the list has at most 1048576 numbers, and a nil list has no room.
-/
import Derived.Deep.RegionWith
import Derived.Test.YtdpdbidjbidmaaaMem4
namespace Go.Proofs.Ytdpdbidjbidmaaa.Tx
open Go.RowKit

theorem hear_bad {zs : List Int} {s x said now : Int} (h : askB zs s x said now = false) : hearI zs s x said now = 5 := if_pos h
theorem hear_young {zs : List Int} {s x said now : Int} (h : askB zs s x said now = true) (h1 : now ≤ s + 61) : hearI zs s x said now = 1 := by unfold hearI; rw [if_neg (by rw [h]; decide), if_pos h1]
theorem hear_stale {zs : List Int} {s x said now : Int} (h : askB zs s x said now = true) (h1 : ¬ now ≤ s + 61) (h2 : now + 30 < said ∨ said < now - 30) : hearI zs s x said now = 2 := by unfold hearI; rw [if_neg (by rw [h]; decide), if_neg h1, if_pos h2]
theorem hear_seen {zs : List Int} {s x said now : Int} (h : askB zs s x said now = true) (h1 : ¬ now ≤ s + 61) (h2 : ¬ (now + 30 < said ∨ said < now - 30)) (h3 : x ∈ zs) : hearI zs s x said now = 3 := by unfold hearI; rw [if_neg (by rw [h]; decide), if_neg h1, if_neg h2, if_pos h3]
theorem hear_full {zs : List Int} {s x said now : Int} (h : askB zs s x said now = true) (h1 : ¬ now ≤ s + 61) (h2 : ¬ (now + 30 < said ∨ said < now - 30)) (h3 : ¬ x ∈ zs) (h4 : zs.length = 6) : hearI zs s x said now = 4 := by unfold hearI; rw [if_neg (by rw [h]; decide), if_neg h1, if_neg h2, if_neg h3, if_pos h4]
theorem hear_yes {zs : List Int} {s x said now : Int} (h : askB zs s x said now = true) (h1 : ¬ now ≤ s + 61) (h2 : ¬ (now + 30 < said ∨ said < now - 30)) (h3 : ¬ x ∈ zs) (h4 : ¬ zs.length = 6) : hearI zs s x said now = 0 := by unfold hearI; rw [if_neg (by rw [h]; decide), if_neg h1, if_neg h2, if_neg h3, if_neg h4]

set_option maxRecDepth 100000 in
set_option maxHeartbeats 4000000 in
theorem MayHear_spec (A : Option Addr) (n cap : Nat) (zs : List Int) (s x said now : Int) (w : World) (h : Nums w w.heap.size A n zs) (hn : n ≤ 1048576) :
    Calls Try.prog 16 #[.agg #[.slice A n cap, .int .i64 s], .int .i64 x, .int .i64 said, .int .i64 now] w fun e w' => e = .returned (.int .i64 (hearI zs s x said now)) ∧ Below w.heap.size w w' := by
  have HL := Lib.hid h.1
  obtain ⟨V, hV⟩ : ∃ V, w.alloc (.cells #[.slice A n cap, .int .i64 s] 26) = V := ⟨_, rfl⟩
  have K : Hid (Below w.heap.size w V) := by rw [← hV]; exact (Below.refl _ w).alloc (Nat.le_refl _) _
  have B0 : Hid (V.heap[w.heap.size]? = some (.cells #[.slice A n cap, .int .i64 s] 26)) := by rw [← hV]; exact heap1 w _
  have HN := Lib.hid (h.on K.out)
  clear h
  have cM := MemoryOk_spec A n cap zs s V HN.out hn
  have cD := IsDraw_spec x
  have cS := l6Time_any said
  have cN := l6Time_any now
  have HA : Hid (askB zs s x said now = (memB zs s && (isDrawB x && (inB said 0 100000 && inB now 0 100000)))) := rfl
  have HT := Lib.hid (fun (h : memB zs s = true) => (memB_true h).2.2.2)
  have HS := Lib.hid (fun (h : inB said 0 100000 = true) => inB_true h)
  have HW := Lib.hid (fun (h : inB now 0 100000 = true) => inB_true h)
  cases hM : memB zs s with
  | false =>
    rw [hM] at cM
    have HR : Hid (hearI zs s x said now = 5) := hear_bad (by rw [HA.out, hM]; simp)
    clear HT HS HW HA
    obtain ⟨⟨a0, a1⟩, _⟩ := blk2 B0.out
    go_enter Try.func16, Try.ntmps16
    go_wp2_with fail
    clear hV a0 a1
    refine cM.mono ?_
    rintro e w1 ⟨rfl, b⟩
    have B1 := Lib.hid (blk_on b B0.out)
    have HN1 := Lib.hid (HN.out.on b)
    have K1 := Lib.hid (K.out.trans (b.mono K.out.size))
    have c0 := blk_cell B1.out 0
    have c1 := blk_cell B1.out 1
    clear b
    go_wp2
    go_ret
    exact ⟨by rw [HR.out]; rfl, K1.out⟩
  | true =>
    rw [hM] at cM
    cases hD : isDrawB x with
    | false =>
      rw [hD] at cD
      have HR : Hid (hearI zs s x said now = 5) := hear_bad (by rw [HA.out, hM, hD]; simp)
      clear HT HS HW HA
      obtain ⟨⟨a0, a1⟩, _⟩ := blk2 B0.out
      go_enter Try.func16, Try.ntmps16
      go_wp2_with fail
      clear hV a0 a1
      refine cM.mono ?_
      rintro e w1 ⟨rfl, b⟩
      have B1 := Lib.hid (blk_on b B0.out)
      have HN1 := Lib.hid (HN.out.on b)
      have K1 := Lib.hid (K.out.trans (b.mono K.out.size))
      have c0 := blk_cell B1.out 0
      have c1 := blk_cell B1.out 1
      clear b
      go_wp2_with (first | (go_at_call 44; refine (cD _).mono ?_; rintro e w2 ⟨rfl, rfl⟩))
      go_ret
      exact ⟨by rw [HR.out]; rfl, K1.out⟩
    | true =>
      rw [hD] at cD
      cases hS : inB said 0 100000 with
      | false =>
        rw [hS] at cS
        have HR : Hid (hearI zs s x said now = 5) := hear_bad (by rw [HA.out, hM, hD, hS]; simp)
        clear HT HS HW HA
        obtain ⟨⟨a0, a1⟩, _⟩ := blk2 B0.out
        go_enter Try.func16, Try.ntmps16
        go_wp2_with fail
        clear hV a0 a1
        refine cM.mono ?_
        rintro e w1 ⟨rfl, b⟩
        have B1 := Lib.hid (blk_on b B0.out)
        have HN1 := Lib.hid (HN.out.on b)
        have K1 := Lib.hid (K.out.trans (b.mono K.out.size))
        have c0 := blk_cell B1.out 0
        have c1 := blk_cell B1.out 1
        clear b
        go_wp2_with (first | (go_at_call 44; refine (cD _).mono ?_; rintro e w2 ⟨rfl, rfl⟩) | (go_at_call_of 45 said; refine (cS _).mono ?_; rintro e w3 ⟨rfl, rfl⟩))
        go_ret
        exact ⟨by rw [HR.out]; rfl, K1.out⟩
      | true =>
        rw [hS] at cS
        cases hN : inB now 0 100000 with
        | false =>
          rw [hN] at cN
          have HR : Hid (hearI zs s x said now = 5) := hear_bad (by rw [HA.out, hM, hD, hS, hN]; simp)
          clear HT HS HW HA
          obtain ⟨⟨a0, a1⟩, _⟩ := blk2 B0.out
          go_enter Try.func16, Try.ntmps16
          go_wp2_with fail
          clear hV a0 a1
          refine cM.mono ?_
          rintro e w1 ⟨rfl, b⟩
          have B1 := Lib.hid (blk_on b B0.out)
          have HN1 := Lib.hid (HN.out.on b)
          have K1 := Lib.hid (K.out.trans (b.mono K.out.size))
          have c0 := blk_cell B1.out 0
          have c1 := blk_cell B1.out 1
          clear b
          go_wp2_with (first | (go_at_call 44; refine (cD _).mono ?_; rintro e w2 ⟨rfl, rfl⟩) | (go_at_call_of 45 said; refine (cS _).mono ?_; rintro e w3 ⟨rfl, rfl⟩) | (go_at_call_of 45 now; refine (cN _).mono ?_; rintro e w4 ⟨rfl, rfl⟩))
          go_ret
          exact ⟨by rw [HR.out]; rfl, K1.out⟩
        | true =>
          rw [hN] at cN
          have hask : askB zs s x said now = true := by rw [HA.out, hM, hD, hS, hN]; rfl
          obtain ⟨t0, t1⟩ := HT.out hM
          obtain ⟨u0, u1⟩ := HS.out hS
          obtain ⟨v0, v1⟩ := HW.out hN
          have HK := Lib.hid hask
          clear hM hD hS hN hask HT HS HW HA
          by_cases y1 : now ≤ s + 61
          · skip
            have HR := Lib.hid (hear_young (zs := zs) (s := s) (x := x) (said := said) HK.out y1)
            obtain ⟨⟨a0, a1⟩, _⟩ := blk2 B0.out
            go_enter Try.func16, Try.ntmps16
            go_wp2_with fail
            clear hV a0 a1
            refine cM.mono ?_
            rintro e w1 ⟨rfl, b⟩
            have B1 := Lib.hid (blk_on b B0.out)
            have HN1 := Lib.hid (HN.out.on b)
            have K1 := Lib.hid (K.out.trans (b.mono K.out.size))
            have c0 := blk_cell B1.out 0
            have c1 := blk_cell B1.out 1
            clear b
            go_wp2_with (first | (go_at_call 44; refine (cD _).mono ?_; rintro e w2 ⟨rfl, rfl⟩) | (go_at_call_of 45 said; refine (cS _).mono ?_; rintro e w3 ⟨rfl, rfl⟩) | (go_at_call_of 45 now; refine (cN _).mono ?_; rintro e w4 ⟨rfl, rfl⟩))
            go_ret
            exact ⟨by rw [HR.out]; rfl, K1.out⟩
          by_cases y2 : now + 30 < said
          · skip
            have HR := Lib.hid (hear_stale HK.out y1 (.inl y2))
            obtain ⟨⟨a0, a1⟩, _⟩ := blk2 B0.out
            go_enter Try.func16, Try.ntmps16
            go_wp2_with fail
            clear hV a0 a1
            refine cM.mono ?_
            rintro e w1 ⟨rfl, b⟩
            have B1 := Lib.hid (blk_on b B0.out)
            have HN1 := Lib.hid (HN.out.on b)
            have K1 := Lib.hid (K.out.trans (b.mono K.out.size))
            have c0 := blk_cell B1.out 0
            have c1 := blk_cell B1.out 1
            clear b
            go_wp2_with (first | (go_at_call 44; refine (cD _).mono ?_; rintro e w2 ⟨rfl, rfl⟩) | (go_at_call_of 45 said; refine (cS _).mono ?_; rintro e w3 ⟨rfl, rfl⟩) | (go_at_call_of 45 now; refine (cN _).mono ?_; rintro e w4 ⟨rfl, rfl⟩))
            go_ret
            exact ⟨by rw [HR.out]; rfl, K1.out⟩
          by_cases y3 : said < now - 30
          · skip
            have HR := Lib.hid (hear_stale HK.out y1 (.inr y3))
            obtain ⟨⟨a0, a1⟩, _⟩ := blk2 B0.out
            go_enter Try.func16, Try.ntmps16
            go_wp2_with fail
            clear hV a0 a1
            refine cM.mono ?_
            rintro e w1 ⟨rfl, b⟩
            have B1 := Lib.hid (blk_on b B0.out)
            have HN1 := Lib.hid (HN.out.on b)
            have K1 := Lib.hid (K.out.trans (b.mono K.out.size))
            have c0 := blk_cell B1.out 0
            have c1 := blk_cell B1.out 1
            clear b
            go_wp2_with (first | (go_at_call 44; refine (cD _).mono ?_; rintro e w2 ⟨rfl, rfl⟩) | (go_at_call_of 45 said; refine (cS _).mono ?_; rintro e w3 ⟨rfl, rfl⟩) | (go_at_call_of 45 now; refine (cN _).mono ?_; rintro e w4 ⟨rfl, rfl⟩))
            go_ret
            exact ⟨by rw [HR.out]; rfl, K1.out⟩
          have HY : Hid (¬ (now + 30 < said ∨ said < now - 30)) := fun h => h.elim y2 y3
          by_cases hxm : x ∈ zs
          · have hx : decide (x ∈ zs) = true := decide_eq_true hxm
            have HR := Lib.hid (hear_seen HK.out y1 HY.out hxm)
            clear hxm
            obtain ⟨⟨a0, a1⟩, _⟩ := blk2 B0.out
            go_enter Try.func16, Try.ntmps16
            go_wp2_with fail
            clear hV a0 a1
            refine cM.mono ?_
            rintro e w1 ⟨rfl, b⟩
            have B1 := Lib.hid (blk_on b B0.out)
            have HN1 := Lib.hid (HN.out.on b)
            have K1 := Lib.hid (K.out.trans (b.mono K.out.size))
            have c0 := blk_cell B1.out 0
            have c1 := blk_cell B1.out 1
            clear b
            go_wp2_with (first | (go_at_call 44; refine (cD _).mono ?_; rintro e w2 ⟨rfl, rfl⟩) | (go_at_call_of 45 said; refine (cS _).mono ?_; rintro e w3 ⟨rfl, rfl⟩) | (go_at_call_of 45 now; refine (cN _).mono ?_; rintro e w4 ⟨rfl, rfl⟩) | (go_at_call 18; refine (SeenIn_spec A n cap zs s x _ HN1.out hn).mono ?_; rw [hx]; rintro e w5 ⟨rfl, b⟩; have B5 := Lib.hid (blk_on b B1.out); have K5 := Lib.hid (K1.out.trans (b.mono K1.out.size)); have d0 := blk_cell B5.out 0; clear b))
            go_ret
            exact ⟨by rw [HR.out]; rfl, K5.out⟩
          have hx : decide (x ∈ zs) = false := decide_eq_false hxm
          by_cases h6 : n = 6
          · have d6 : ((n : Int) == 6) = true := by rw [h6]; rfl
            have HR := Lib.hid (hear_full HK.out y1 HY.out hxm (HL.out.trans h6))
            clear h6
            clear hxm
            obtain ⟨⟨a0, a1⟩, _⟩ := blk2 B0.out
            go_enter Try.func16, Try.ntmps16
            go_wp2_with fail
            clear hV a0 a1
            refine cM.mono ?_
            rintro e w1 ⟨rfl, b⟩
            have B1 := Lib.hid (blk_on b B0.out)
            have HN1 := Lib.hid (HN.out.on b)
            have K1 := Lib.hid (K.out.trans (b.mono K.out.size))
            have c0 := blk_cell B1.out 0
            have c1 := blk_cell B1.out 1
            clear b
            go_wp2_with (first | (go_at_call 44; refine (cD _).mono ?_; rintro e w2 ⟨rfl, rfl⟩) | (go_at_call_of 45 said; refine (cS _).mono ?_; rintro e w3 ⟨rfl, rfl⟩) | (go_at_call_of 45 now; refine (cN _).mono ?_; rintro e w4 ⟨rfl, rfl⟩) | (go_at_call 18; refine (SeenIn_spec A n cap zs s x _ HN1.out hn).mono ?_; rw [hx]; rintro e w5 ⟨rfl, b⟩; have B5 := Lib.hid (blk_on b B1.out); have K5 := Lib.hid (K1.out.trans (b.mono K1.out.size)); have d0 := blk_cell B5.out 0; clear b))
            go_ret
            exact ⟨by rw [HR.out]; rfl, K5.out⟩
          have d6 : ((n : Int) == 6) = false := by rw [beq_eq_false_iff_ne]; omega
          have HR := Lib.hid (hear_yes HK.out y1 HY.out hxm (by rw [HL.out]; exact h6))
          clear h6
          clear hxm
          obtain ⟨⟨a0, a1⟩, _⟩ := blk2 B0.out
          go_enter Try.func16, Try.ntmps16
          go_wp2_with fail
          clear hV a0 a1
          refine cM.mono ?_
          rintro e w1 ⟨rfl, b⟩
          have B1 := Lib.hid (blk_on b B0.out)
          have HN1 := Lib.hid (HN.out.on b)
          have K1 := Lib.hid (K.out.trans (b.mono K.out.size))
          have c0 := blk_cell B1.out 0
          have c1 := blk_cell B1.out 1
          clear b
          go_wp2_with (first | (go_at_call 44; refine (cD _).mono ?_; rintro e w2 ⟨rfl, rfl⟩) | (go_at_call_of 45 said; refine (cS _).mono ?_; rintro e w3 ⟨rfl, rfl⟩) | (go_at_call_of 45 now; refine (cN _).mono ?_; rintro e w4 ⟨rfl, rfl⟩) | (go_at_call 18; refine (SeenIn_spec A n cap zs s x _ HN1.out hn).mono ?_; rw [hx]; rintro e w5 ⟨rfl, b⟩; have B5 := Lib.hid (blk_on b B1.out); have K5 := Lib.hid (K1.out.trans (b.mono K1.out.size)); have d0 := blk_cell B5.out 0; clear b))
          go_ret
          exact ⟨by rw [HR.out]; rfl, K5.out⟩

end Go.Proofs.Ytdpdbidjbidmaaa.Tx
