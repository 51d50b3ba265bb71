/-
  What NewMemory, MayHear and Noted of the program answer. Conditions: the list has at most 1048576 numbers, each an int64; so is the greeting's number.
-/
import Derived.WalkLawsBesides
import Derived.Deep.RegionWith
import Derived.Test.YtdpdbidjbidmaaaImpl8c
namespace Go.Proofs.Ytdpdbidjbidmaaa.Tx
open Go.RowKit

theorem apart_any (a b : Int) (ha : 0 ≤ a ∧ a ≤ 100000) (hb : 0 ≤ b ∧ b ≤ 100000) (w : World) : Calls Try.prog 40 #[.int .i64 a, .int .i64 b] w fun e w' => e = .returned (.int .i64 (max (a - b) (b - a))) ∧ w = w' := by
  obtain ⟨a0, a1⟩ := ha
  obtain ⟨b0, b1⟩ := hb
  go_enter Try.func40, Try.ntmps40
  go_wp2
  go_ret
  exact ⟨rfl, rfl⟩

set_option maxRecDepth 100000 in
set_option maxHeartbeats 2000000 in
theorem NewMemory_impl (now : Int) (w : World) : Calls Try.prog 15 #[.int .i64 now] w (MemOut [] (sinceI [] now) (memB [] now) w) := by
  obtain ⟨V, hV⟩ : ∃ V, w.alloc (.cells #[.slice none 0 0, .int .i64 0] 26) = V := ⟨_, rfl⟩
  have K : Hid (Below w.heap.size w V) := by rw [← hV]; exact (Below.refl _ w).alloc (Nat.le_refl _) _
  have R : Hid (V.heap[w.heap.size]? = some (.cells #[.slice none 0 0, .int .i64 0] 26)) := by rw [← hV]; exact heap1 w _
  have sV : V.heap.size = w.heap.size + 1 := by rw [← hV]; simp
  have cR : Hid (Calls Try.prog 37 #[.agg #[.slice none 0 0, .int .i64 now]] V fun e w' => ∃ b, e = .returned (.tuple #[.agg #[.map (some b), .int .i64 (sinceI [] now)], .bool (memB [] now)]) ∧ Places w' b [] ∧ V.heap.size ≤ b ∧ Below V.heap.size V w') := by
    have h1 := recallOf_any none 0 0 [] now V (nums_nil _ _ _) allI64_nil (by omega)
    have h2 : seenL [] now = [] := by unfold seenL; split <;> rfl
    unfold RecOut at h1
    rw [h2] at h1
    exact h1
  generalize sinceI [] now = s at cR ⊢
  generalize memB [] now = y at cR ⊢
  go_enter Try.func15, Try.ntmps15
  go_wp2_with fail
  clear hV
  refine cR.out.mono ?_
  rintro e w1 ⟨x, rfl, hp, hx, b⟩
  have P := Lib.hid hp
  replace R := Lib.hid (blk_on b R.out)
  replace K := Lib.hid (K.out.trans (b.mono K.out.size))
  have s1 := b.size
  clear hp b cR
  obtain ⟨W2, hW2⟩ : ∃ W, w1.alloc (.cells #[.map (some x), .int .i64 s] 58) = W := ⟨_, rfl⟩
  have b : Below w1.heap.size w1 W2 := hW2 ▸ (Below.refl _ w1).alloc (Nat.le_refl _) _
  have G : Hid (W2.heap[w1.heap.size]? = some (.cells #[.map (some x), .int .i64 s] 58)) := by rw [← hW2]; exact heap1 w1 _
  have s2 := b.size
  replace P := Lib.hid (P.out.on b)
  replace R := Lib.hid (blk_on b R.out)
  replace K := Lib.hid (K.out.trans (b.mono K.out.size))
  clear b
  obtain ⟨⟨g0, g1⟩, _⟩ := blk2 G.out
  go_wp2_with fail
  clear hW2 g0 g1
  refine (told_any x [] List.nodup_nil (by simp) s W2 P.out).mono ?_
  rintro e w3 ⟨rfl, hrow, b⟩
  replace R := Lib.hid (blk_on b R.out)
  replace K := Lib.hid (K.out.trans (b.mono K.out.size))
  have O := Lib.hid (ownN_row (base := w.heap.size) hrow rfl (by omega) (by simp))
  have s3 := b.size
  clear b hrow
  obtain ⟨⟨r0, r1⟩, p0, p1⟩ := blk2 R.out
  go_wp2
  exact row_ret2 (r := w.heap.size) (cs := #[.slice (some ⟨W2.heap.size + 2, 0, none⟩) 0 0, .int .i64 s]) rfl rfl rfl (setAll_whole (vs := [.slice (some ⟨W2.heap.size + 2, 0, none⟩) 0 0, .int .i64 s]) R.out rfl) Try.underlying26 rfl (by kernel_rfl) rfl
    ⟨some ⟨W2.heap.size + 2, 0, none⟩, 0, 0, rfl, O.out.heap (fun k e => by obtain rfl : W2.heap.size + 2 = k := Option.some.inj e; exact setAll_off (g := w.heap.size) (by omega) [.slice (some ⟨W2.heap.size + 2, 0, none⟩) 0 0, .int .i64 s] 0), setAll_below (g := w.heap.size) (by omega) [.slice (some ⟨W2.heap.size + 2, 0, none⟩) 0 0, .int .i64 s] 0 K.out⟩

-- MADE by gen/impl8d.py from here on

/-- What recallOf makes, where the Memory is right, and where it is not. -/
theorem recall_right {A : Option Addr} {n cap : Nat} {zs : List Int} {s : Int} {w : World} (h : Nums w w.heap.size A n zs) (hi : AllI64 zs) (hn : n ≤ 1048576) (hM : memB zs s = true) :
    Calls Try.prog 37 #[.agg #[.slice A n cap, .int .i64 s]] w fun e w' => ∃ b, e = .returned (.tuple #[.agg #[.map (some b), .int .i64 s], .bool true]) ∧ Places w' b zs ∧ w.heap.size ≤ b ∧ Below w.heap.size w w' := by
  have h1 := recallOf_any A n cap zs s w h hi hn
  unfold RecOut at h1
  rwa [sinceI_true hM, seenL_true hM, hM] at h1
theorem recall_wrong {A : Option Addr} {n cap : Nat} {zs : List Int} {s z : Int} {w : World} (h : Nums w w.heap.size A n zs) (hi : AllI64 zs) (hn : n ≤ 1048576) (hM : memB zs s = false) (hz : z = 0) :
    Calls Try.prog 37 #[.agg #[.slice A n cap, .int .i64 s]] w fun e w' => ∃ b, e = .returned (.tuple #[.agg #[.map (some b), .int .i64 z], .bool false]) ∧ Places w' b [] ∧ w.heap.size ≤ b ∧ Below w.heap.size w w' := by
  have h1 := recallOf_any A n cap zs s w h hi hn
  unfold RecOut at h1
  rwa [sinceI_false hM, seenL_false hM, hM, ← hz] at h1
theorem places_ne {w : World} {b k : Nat} {zs : List Int} {cs : Array Value} {t : TypeId} {f : Nat × Nat} (h : Places w b zs) (hb : w.heap[k]? = some (.cells cs t f)) : k ≠ b := fun e => by
  subst e
  obtain ⟨es, clock, h1, _⟩ := h
  rw [hb] at h1; cases h1

set_option maxRecDepth 100000 in
set_option maxHeartbeats 8000000 in
theorem MayHear_impl (A : Option Addr) (n cap : Nat) (zs : List Int) (s x said now : Int) (w : World) (h : Nums w w.heap.size A n zs) (hi : AllI64 zs) (hn : n ≤ 1048576) :
    Calls Try.prog 11 #[.agg #[.slice A n cap, .int .i64 s], .int .i64 x, .int .i64 said, .int .i64 now] w fun e w' => e = .returned (.int .i64 (hearI zs s x said now)) ∧ Below w.heap.size w w' := by
  obtain ⟨V, hV⟩ : ∃ V, w.alloc (.cells #[.slice A n cap, .int .i64 s] 26) = V := ⟨_, rfl⟩
  have K : Hid (Below w.heap.size w V) := by rw [← hV]; exact (Below.refl _ w).alloc (Nat.le_refl _) _
  have B0 : Hid (V.heap[w.heap.size]? = some (.cells #[.slice A n cap, .int .i64 s] 26)) := by rw [← hV]; exact heap1 w _
  have HN := Lib.hid (h.on K.out)
  have HI := Lib.hid hi
  clear h hi
  have cD := IsDraw_same x
  have cS := isTime_any said
  have cN := isTime_any now
  have HA : Hid (askB zs s x said now = (memB zs s && (isDrawB x && (inB said 0 100000 && inB now 0 100000)))) := rfl
  cases hM : memB zs s with
  | false =>
    obtain ⟨z, HZ⟩ : ∃ z : Int, Hid (z = 0) := ⟨0, rfl⟩
    have cR := Lib.hid (recall_wrong (cap := cap) HN.out HI.out hn hM HZ.out)
    have HR : Hid (hearI zs s x said now = 5) := hear_bad (by rw [HA.out, hM]; simp)
    obtain ⟨⟨a0, a1⟩, _⟩ := blk2 B0.out
    go_enter Try.func11, Try.ntmps11
    go_wp2_with fail
    clear hV a0 a1
    refine cR.out.mono ?_
    rintro e w1 ⟨b, rfl, hp, hbl, bb⟩
    have P := Lib.hid hp
    replace K := Lib.hid (K.out.trans (bb.mono K.out.size))
    have s1 := bb.size
    clear hp bb cR
    obtain ⟨W2, hW2⟩ : ∃ W, w1.alloc (.cells #[.map (some b), .int .i64 z] 58) = W := ⟨_, rfl⟩
    have bb : Below w1.heap.size w1 W2 := hW2 ▸ (Below.refl _ w1).alloc (Nat.le_refl _) _
    have G : Hid (W2.heap[w1.heap.size]? = some (.cells #[.map (some b), .int .i64 z] 58)) := by rw [← hW2]; exact heap1 w1 _
    have s2 : w1.heap.size < W2.heap.size := by rw [← hW2]; simp
    replace P := Lib.hid (P.out.on bb)
    replace K := Lib.hid (K.out.trans (bb.mono K.out.size))
    clear bb
    obtain ⟨⟨g0, g1⟩, _⟩ := blk2 G.out
    go_wp2
    go_ret
    exact ⟨by rw [HR.out]; rfl, K.out⟩
  | true =>
    have cR := Lib.hid (recall_right (cap := cap) HN.out HI.out hn hM)
    have hT := Lib.hid (memB_true hM)
    cases hD : isDrawB x with
    | false =>
      rw [hD] at cD
      have HR : Hid (hearI zs s x said now = 5) := hear_bad (by rw [HA.out, hM, hD]; simp)
      clear hT
      obtain ⟨⟨a0, a1⟩, _⟩ := blk2 B0.out
      go_enter Try.func11, Try.ntmps11
      go_wp2_with fail
      clear hV a0 a1
      refine cR.out.mono ?_
      rintro e w1 ⟨b, rfl, hp, hbl, bb⟩
      have P := Lib.hid hp
      replace K := Lib.hid (K.out.trans (bb.mono K.out.size))
      have s1 := bb.size
      clear hp bb cR
      obtain ⟨W2, hW2⟩ : ∃ W, w1.alloc (.cells #[.map (some b), .int .i64 s] 58) = W := ⟨_, rfl⟩
      have bb : Below w1.heap.size w1 W2 := hW2 ▸ (Below.refl _ w1).alloc (Nat.le_refl _) _
      have G : Hid (W2.heap[w1.heap.size]? = some (.cells #[.map (some b), .int .i64 s] 58)) := by rw [← hW2]; exact heap1 w1 _
      have s2 : w1.heap.size < W2.heap.size := by rw [← hW2]; simp
      replace P := Lib.hid (P.out.on bb)
      replace K := Lib.hid (K.out.trans (bb.mono K.out.size))
      clear bb
      obtain ⟨⟨g0, g1⟩, _⟩ := blk2 G.out
      go_wp2_with (first | (go_at_call 38; refine (cD _).mono ?_; rintro e w2 ⟨rfl, rfl⟩))
      go_ret
      exact ⟨by rw [HR.out]; rfl, K.out⟩
    | true =>
      rw [hD] at cD
      cases hS : inB said 0 100000 with
      | false =>
        rw [hS] at cS
        have HR : Hid (hearI zs s x said now = 5) := hear_bad (by rw [HA.out, hM, hD, hS]; simp)
        clear hT
        obtain ⟨⟨a0, a1⟩, _⟩ := blk2 B0.out
        go_enter Try.func11, Try.ntmps11
        go_wp2_with fail
        clear hV a0 a1
        refine cR.out.mono ?_
        rintro e w1 ⟨b, rfl, hp, hbl, bb⟩
        have P := Lib.hid hp
        replace K := Lib.hid (K.out.trans (bb.mono K.out.size))
        have s1 := bb.size
        clear hp bb cR
        obtain ⟨W2, hW2⟩ : ∃ W, w1.alloc (.cells #[.map (some b), .int .i64 s] 58) = W := ⟨_, rfl⟩
        have bb : Below w1.heap.size w1 W2 := hW2 ▸ (Below.refl _ w1).alloc (Nat.le_refl _) _
        have G : Hid (W2.heap[w1.heap.size]? = some (.cells #[.map (some b), .int .i64 s] 58)) := by rw [← hW2]; exact heap1 w1 _
        have s2 : w1.heap.size < W2.heap.size := by rw [← hW2]; simp
        replace P := Lib.hid (P.out.on bb)
        replace K := Lib.hid (K.out.trans (bb.mono K.out.size))
        clear bb
        obtain ⟨⟨g0, g1⟩, _⟩ := blk2 G.out
        go_wp2_with (first | (go_at_call 38; refine (cD _).mono ?_; rintro e w2 ⟨rfl, rfl⟩) | (go_at_call_of 39 said; refine (cS _).mono ?_; rintro e w3 ⟨rfl, rfl⟩))
        go_ret
        exact ⟨by rw [HR.out]; rfl, K.out⟩
      | true =>
        rw [hS] at cS
        cases hN : inB now 0 100000 with
        | false =>
          rw [hN] at cN
          have HR : Hid (hearI zs s x said now = 5) := hear_bad (by rw [HA.out, hM, hD, hS, hN]; simp)
          clear hT
          obtain ⟨⟨a0, a1⟩, _⟩ := blk2 B0.out
          go_enter Try.func11, Try.ntmps11
          go_wp2_with fail
          clear hV a0 a1
          refine cR.out.mono ?_
          rintro e w1 ⟨b, rfl, hp, hbl, bb⟩
          have P := Lib.hid hp
          replace K := Lib.hid (K.out.trans (bb.mono K.out.size))
          have s1 := bb.size
          clear hp bb cR
          obtain ⟨W2, hW2⟩ : ∃ W, w1.alloc (.cells #[.map (some b), .int .i64 s] 58) = W := ⟨_, rfl⟩
          have bb : Below w1.heap.size w1 W2 := hW2 ▸ (Below.refl _ w1).alloc (Nat.le_refl _) _
          have G : Hid (W2.heap[w1.heap.size]? = some (.cells #[.map (some b), .int .i64 s] 58)) := by rw [← hW2]; exact heap1 w1 _
          have s2 : w1.heap.size < W2.heap.size := by rw [← hW2]; simp
          replace P := Lib.hid (P.out.on bb)
          replace K := Lib.hid (K.out.trans (bb.mono K.out.size))
          clear bb
          obtain ⟨⟨g0, g1⟩, _⟩ := blk2 G.out
          go_wp2_with (first | (go_at_call 38; refine (cD _).mono ?_; rintro e w2 ⟨rfl, rfl⟩) | (go_at_call_of 39 said; refine (cS _).mono ?_; rintro e w3 ⟨rfl, rfl⟩) | (go_at_call_of 39 now; refine (cN _).mono ?_; rintro e w4 ⟨rfl, rfl⟩))
          go_ret
          exact ⟨by rw [HR.out]; rfl, K.out⟩
        | true =>
          rw [hN] at cN
          have hask : askB zs s x said now = true := by rw [HA.out, hM, hD, hS, hN]; rfl
          obtain ⟨t0, t1⟩ := hT.out.2.2.2
          obtain ⟨u0, u1⟩ := inB_true hS
          obtain ⟨v0, v1⟩ := inB_true hN
          have HK := Lib.hid hask
          have ND := Lib.hid hT.out.2.2.1
          have HX : I64 x := by have := isDraw_iff.1 hD; exact i64_of (by omega) (by omega)
          have cH : Hid (∀ (b : Nat) (w' : World), Places w' b zs → Calls Try.prog 41 #[.map (some b), .int .i64 x] w' fun e w'' => e = .returned (.bool (decide (x ∈ zs))) ∧ Below w'.heap.size w' w'') := fun b w' hp => has_any b zs x HX w' hp
          have cF : Hid (∀ (b : Nat) (w' : World), Places w' b zs → Calls Try.prog 42 #[.agg #[.map (some b), .int .i64 s]] w' fun e w'' => e = .returned (.bool (decide (zs.length = 6))) ∧ Below w'.heap.size w' w'') := fun b w' hp => isFull_any b zs ND.out s w' hp
          have cA := apart_any said now ⟨u0, u1⟩ ⟨v0, v1⟩
          have hap : 30 < max (said - now) (now - said) ↔ now + 30 < said ∨ said < now - 30 := by omega
          clear hM hD hS hN hask hT HX HA
          generalize max (said - now) (now - said) = d at cA hap
          have HAP := Lib.hid hap
          clear hap
          by_cases y1 : now ≤ s + 61
          · skip
            have HR := Lib.hid (hear_young (zs := zs) (s := s) (x := x) (said := said) HK.out y1)
            clear HAP
            obtain ⟨⟨a0, a1⟩, _⟩ := blk2 B0.out
            go_enter Try.func11, Try.ntmps11
            go_wp2_with fail
            clear hV a0 a1
            refine cR.out.mono ?_
            rintro e w1 ⟨b, rfl, hp, hbl, bb⟩
            have P := Lib.hid hp
            replace K := Lib.hid (K.out.trans (bb.mono K.out.size))
            have s1 := bb.size
            clear hp bb cR
            obtain ⟨W2, hW2⟩ : ∃ W, w1.alloc (.cells #[.map (some b), .int .i64 s] 58) = W := ⟨_, rfl⟩
            have bb : Below w1.heap.size w1 W2 := hW2 ▸ (Below.refl _ w1).alloc (Nat.le_refl _) _
            have G : Hid (W2.heap[w1.heap.size]? = some (.cells #[.map (some b), .int .i64 s] 58)) := by rw [← hW2]; exact heap1 w1 _
            have s2 : w1.heap.size < W2.heap.size := by rw [← hW2]; simp
            replace P := Lib.hid (P.out.on bb)
            replace K := Lib.hid (K.out.trans (bb.mono K.out.size))
            clear bb
            obtain ⟨⟨g0, g1⟩, _⟩ := blk2 G.out
            go_wp2_with (first | (go_at_call 38; refine (cD _).mono ?_; rintro e w2 ⟨rfl, rfl⟩) | (go_at_call_of 39 said; refine (cS _).mono ?_; rintro e w3 ⟨rfl, rfl⟩) | (go_at_call_of 39 now; refine (cN _).mono ?_; rintro e w4 ⟨rfl, rfl⟩))
            go_ret
            exact ⟨by rw [HR.out]; rfl, K.out⟩
          by_cases y2 : now + 30 < said ∨ said < now - 30
          · have hd : 30 < d := HAP.out.2 y2
            have HR := Lib.hid (hear_stale HK.out y1 y2)
            clear HAP y2
            obtain ⟨⟨a0, a1⟩, _⟩ := blk2 B0.out
            go_enter Try.func11, Try.ntmps11
            go_wp2_with fail
            clear hV a0 a1
            refine cR.out.mono ?_
            rintro e w1 ⟨b, rfl, hp, hbl, bb⟩
            have P := Lib.hid hp
            replace K := Lib.hid (K.out.trans (bb.mono K.out.size))
            have s1 := bb.size
            clear hp bb cR
            obtain ⟨W2, hW2⟩ : ∃ W, w1.alloc (.cells #[.map (some b), .int .i64 s] 58) = W := ⟨_, rfl⟩
            have bb : Below w1.heap.size w1 W2 := hW2 ▸ (Below.refl _ w1).alloc (Nat.le_refl _) _
            have G : Hid (W2.heap[w1.heap.size]? = some (.cells #[.map (some b), .int .i64 s] 58)) := by rw [← hW2]; exact heap1 w1 _
            have s2 : w1.heap.size < W2.heap.size := by rw [← hW2]; simp
            replace P := Lib.hid (P.out.on bb)
            replace K := Lib.hid (K.out.trans (bb.mono K.out.size))
            clear bb
            obtain ⟨⟨g0, g1⟩, _⟩ := blk2 G.out
            go_wp2_with (first | (go_at_call 38; refine (cD _).mono ?_; rintro e w2 ⟨rfl, rfl⟩) | (go_at_call_of 39 said; refine (cS _).mono ?_; rintro e w3 ⟨rfl, rfl⟩) | (go_at_call_of 39 now; refine (cN _).mono ?_; rintro e w4 ⟨rfl, rfl⟩) | (go_at_call 40; refine (cA _).mono ?_; rintro e w5 ⟨rfl, rfl⟩))
            go_ret
            exact ⟨by rw [HR.out]; rfl, K.out⟩
          have hd : ¬ 30 < d := fun h => y2 (HAP.out.1 h)
          have Y2 := Lib.hid y2
          clear y2
          by_cases hxm : x ∈ zs
          · rw [decide_eq_true hxm] at cH
            have HR := Lib.hid (hear_seen HK.out y1 Y2.out hxm)
            clear HAP hxm
            obtain ⟨⟨a0, a1⟩, _⟩ := blk2 B0.out
            go_enter Try.func11, Try.ntmps11
            go_wp2_with fail
            clear hV a0 a1
            refine cR.out.mono ?_
            rintro e w1 ⟨b, rfl, hp, hbl, bb⟩
            have P := Lib.hid hp
            replace K := Lib.hid (K.out.trans (bb.mono K.out.size))
            have s1 := bb.size
            clear hp bb cR
            obtain ⟨W2, hW2⟩ : ∃ W, w1.alloc (.cells #[.map (some b), .int .i64 s] 58) = W := ⟨_, rfl⟩
            have bb : Below w1.heap.size w1 W2 := hW2 ▸ (Below.refl _ w1).alloc (Nat.le_refl _) _
            have G : Hid (W2.heap[w1.heap.size]? = some (.cells #[.map (some b), .int .i64 s] 58)) := by rw [← hW2]; exact heap1 w1 _
            have s2 : w1.heap.size < W2.heap.size := by rw [← hW2]; simp
            replace P := Lib.hid (P.out.on bb)
            replace K := Lib.hid (K.out.trans (bb.mono K.out.size))
            clear bb
            obtain ⟨⟨g0, g1⟩, _⟩ := blk2 G.out
            go_wp2_with (first | (go_at_call 38; refine (cD _).mono ?_; rintro e w2 ⟨rfl, rfl⟩) | (go_at_call_of 39 said; refine (cS _).mono ?_; rintro e w3 ⟨rfl, rfl⟩) | (go_at_call_of 39 now; refine (cN _).mono ?_; rintro e w4 ⟨rfl, rfl⟩) | (go_at_call 40; refine (cA _).mono ?_; rintro e w5 ⟨rfl, rfl⟩) | (go_at_call 41; refine (cH.out _ _ P.out).mono ?_; rintro e w6 ⟨rfl, bb⟩; have G6 := Lib.hid (blk_on bb G.out); have P6 := Lib.hid (P.out.on bb); have K6 := Lib.hid (K.out.trans (bb.mono K.out.size)); have h0 := blk_cell G6.out 0; have h1 := blk_cell G6.out 1; clear bb))
            go_ret
            exact ⟨by rw [HR.out]; rfl, K6.out⟩
          rw [decide_eq_false hxm] at cH
          by_cases h6 : zs.length = 6
          · rw [decide_eq_true h6] at cF
            have HR := Lib.hid (hear_full HK.out y1 Y2.out hxm h6)
            clear HAP hxm h6
            obtain ⟨⟨a0, a1⟩, _⟩ := blk2 B0.out
            go_enter Try.func11, Try.ntmps11
            go_wp2_with fail
            clear hV a0 a1
            refine cR.out.mono ?_
            rintro e w1 ⟨b, rfl, hp, hbl, bb⟩
            have P := Lib.hid hp
            replace K := Lib.hid (K.out.trans (bb.mono K.out.size))
            have s1 := bb.size
            clear hp bb cR
            obtain ⟨W2, hW2⟩ : ∃ W, w1.alloc (.cells #[.map (some b), .int .i64 s] 58) = W := ⟨_, rfl⟩
            have bb : Below w1.heap.size w1 W2 := hW2 ▸ (Below.refl _ w1).alloc (Nat.le_refl _) _
            have G : Hid (W2.heap[w1.heap.size]? = some (.cells #[.map (some b), .int .i64 s] 58)) := by rw [← hW2]; exact heap1 w1 _
            have s2 : w1.heap.size < W2.heap.size := by rw [← hW2]; simp
            replace P := Lib.hid (P.out.on bb)
            replace K := Lib.hid (K.out.trans (bb.mono K.out.size))
            clear bb
            obtain ⟨⟨g0, g1⟩, _⟩ := blk2 G.out
            go_wp2_with (first | (go_at_call 38; refine (cD _).mono ?_; rintro e w2 ⟨rfl, rfl⟩) | (go_at_call_of 39 said; refine (cS _).mono ?_; rintro e w3 ⟨rfl, rfl⟩) | (go_at_call_of 39 now; refine (cN _).mono ?_; rintro e w4 ⟨rfl, rfl⟩) | (go_at_call 40; refine (cA _).mono ?_; rintro e w5 ⟨rfl, rfl⟩) | (go_at_call 41; refine (cH.out _ _ P.out).mono ?_; rintro e w6 ⟨rfl, bb⟩; have G6 := Lib.hid (blk_on bb G.out); have P6 := Lib.hid (P.out.on bb); have K6 := Lib.hid (K.out.trans (bb.mono K.out.size)); have h0 := blk_cell G6.out 0; have h1 := blk_cell G6.out 1; clear bb) | (go_at_call 42; refine (cF.out _ _ P6.out).mono ?_; rintro e w7 ⟨rfl, bb⟩; have K7 := Lib.hid (K6.out.trans (bb.mono K6.out.size)); clear bb))
            go_ret
            exact ⟨by rw [HR.out]; rfl, K7.out⟩
          rw [decide_eq_false h6] at cF
          have HR := Lib.hid (hear_yes HK.out y1 Y2.out hxm h6)
          clear HAP hxm h6
          obtain ⟨⟨a0, a1⟩, _⟩ := blk2 B0.out
          go_enter Try.func11, Try.ntmps11
          go_wp2_with fail
          clear hV a0 a1
          refine cR.out.mono ?_
          rintro e w1 ⟨b, rfl, hp, hbl, bb⟩
          have P := Lib.hid hp
          replace K := Lib.hid (K.out.trans (bb.mono K.out.size))
          have s1 := bb.size
          clear hp bb cR
          obtain ⟨W2, hW2⟩ : ∃ W, w1.alloc (.cells #[.map (some b), .int .i64 s] 58) = W := ⟨_, rfl⟩
          have bb : Below w1.heap.size w1 W2 := hW2 ▸ (Below.refl _ w1).alloc (Nat.le_refl _) _
          have G : Hid (W2.heap[w1.heap.size]? = some (.cells #[.map (some b), .int .i64 s] 58)) := by rw [← hW2]; exact heap1 w1 _
          have s2 : w1.heap.size < W2.heap.size := by rw [← hW2]; simp
          replace P := Lib.hid (P.out.on bb)
          replace K := Lib.hid (K.out.trans (bb.mono K.out.size))
          clear bb
          obtain ⟨⟨g0, g1⟩, _⟩ := blk2 G.out
          go_wp2_with (first | (go_at_call 38; refine (cD _).mono ?_; rintro e w2 ⟨rfl, rfl⟩) | (go_at_call_of 39 said; refine (cS _).mono ?_; rintro e w3 ⟨rfl, rfl⟩) | (go_at_call_of 39 now; refine (cN _).mono ?_; rintro e w4 ⟨rfl, rfl⟩) | (go_at_call 40; refine (cA _).mono ?_; rintro e w5 ⟨rfl, rfl⟩) | (go_at_call 41; refine (cH.out _ _ P.out).mono ?_; rintro e w6 ⟨rfl, bb⟩; have G6 := Lib.hid (blk_on bb G.out); have P6 := Lib.hid (P.out.on bb); have K6 := Lib.hid (K.out.trans (bb.mono K.out.size)); have h0 := blk_cell G6.out 0; have h1 := blk_cell G6.out 1; clear bb) | (go_at_call 42; refine (cF.out _ _ P6.out).mono ?_; rintro e w7 ⟨rfl, bb⟩; have K7 := Lib.hid (K6.out.trans (bb.mono K6.out.size)); clear bb))
          go_ret
          exact ⟨by rw [HR.out]; rfl, K7.out⟩

set_option maxRecDepth 100000 in
set_option maxHeartbeats 8000000 in
theorem Noted_impl (A : Option Addr) (n cap : Nat) (zs : List Int) (s x : Int) (w : World) (h : Nums w w.heap.size A n zs) (hi : AllI64 zs) (hn : n ≤ 1048576) :
    Calls Try.prog 13 #[.agg #[.slice A n cap, .int .i64 s], .int .i64 x] w (MemOut (notedL zs s x) (sinceI zs s) (notedB zs s x) w) := by
  have HL := Lib.hid h.1
  obtain ⟨V, hV⟩ : ∃ V, (w.alloc (.cells #[.slice A n cap, .int .i64 s] 26)).alloc (.cells #[.slice none 0 0, .int .i64 0] 26) = V := ⟨_, rfl⟩
  have K : Hid (Below w.heap.size w V) := by rw [← hV]; exact ((Below.refl _ w).alloc (Nat.le_refl _) _).alloc (by simp) _
  have B0 : Hid (V.heap[w.heap.size]? = some (.cells #[.slice A n cap, .int .i64 s] 26)) := by rw [← hV]; exact heap2a w _ _
  have R : Hid (V.heap[w.heap.size + 1]? = some (.cells #[.slice none 0 0, .int .i64 0] 26)) := by rw [← hV]; exact heap2b w _ _
  have sV : V.heap.size = w.heap.size + 2 := by rw [← hV]; simp
  have HN := Lib.hid (h.on K.out)
  have HI := Lib.hid hi
  clear h hi
  have cD := IsDraw_same x
  cases hM : memB zs s with
  | false =>
    obtain ⟨z, HZ⟩ : ∃ z : Int, Hid (z = 0) := ⟨0, rfl⟩
    have cR := Lib.hid (recall_wrong (cap := cap) HN.out HI.out hn hM HZ.out)
    obtain ⟨e1, e2, e3⟩ := (⟨(sinceI_false hM).trans HZ.out.symm, (noted_bad (x := x) hM).2.1, (noted_bad (x := x) hM).1⟩ : sinceI zs s = z ∧ notedL zs s x = [] ∧ notedB zs s x = false)
    have E1 := Lib.hid e1
    have E2 := Lib.hid e2
    have E3 := Lib.hid e3
    clear e1 e2 e3
    clear hM cD
    obtain ⟨⟨a0, a1⟩, _⟩ := blk2 B0.out
    go_enter Try.func13, Try.ntmps13
    go_wp2_with fail
    clear hV a0 a1
    refine cR.out.mono ?_
    rintro e w1 ⟨b, rfl, hp, hbl, bb⟩
    have P := Lib.hid hp
    replace K := Lib.hid (K.out.trans (bb.mono K.out.size))
    have s1 := bb.size
    replace R := Lib.hid (blk_on bb R.out)
    clear hp bb cR
    obtain ⟨W2, hW2⟩ : ∃ W, w1.alloc (.cells #[.map (some b), .int .i64 z] 58) = W := ⟨_, rfl⟩
    have bb : Below w1.heap.size w1 W2 := hW2 ▸ (Below.refl _ w1).alloc (Nat.le_refl _) _
    have G : Hid (W2.heap[w1.heap.size]? = some (.cells #[.map (some b), .int .i64 z] 58)) := by rw [← hW2]; exact heap1 w1 _
    have s2 : w1.heap.size < W2.heap.size := by rw [← hW2]; simp
    replace P := Lib.hid (P.out.on bb)
    replace K := Lib.hid (K.out.trans (bb.mono K.out.size))
    replace R := Lib.hid (blk_on bb R.out)
    clear bb
    obtain ⟨⟨g0, g1⟩, _⟩ := blk2 G.out
    go_wp2_with fail
    clear hW2 g0 g1
    refine (told_any b [] List.nodup_nil (by simp) z W2 P.out).mono ?_
    rintro e w9 ⟨rfl, hrow, bb⟩
    have R9 := Lib.hid (blk_on bb R.out)
    have K9 := Lib.hid (K.out.trans (bb.mono K.out.size))
    have O := Lib.hid (ownN_row (base := w.heap.size) hrow rfl (by omega) (by simp))
    have s9 := bb.size
    clear bb hrow
    obtain ⟨⟨r0, r1⟩, p0, p1⟩ := blk2 R9.out
    go_wp2
    exact row_ret2 (r := w.heap.size + 1) (cs := #[.slice (some ⟨W2.heap.size + 2, 0, none⟩) 0 0, .int .i64 z]) rfl rfl rfl (setAll_whole (vs := [.slice (some ⟨W2.heap.size + 2, 0, none⟩) 0 0, .int .i64 z]) R9.out rfl) Try.underlying26 rfl (by kernel_rfl) rfl
      ⟨some ⟨W2.heap.size + 2, 0, none⟩, 0, 0, by rw [E1.out, E3.out]; rfl, by rw [E2.out]; exact O.out.heap (fun k e => by obtain rfl : W2.heap.size + 2 = k := Option.some.inj e; exact setAll_off (g := w.heap.size + 1) (by omega) [.slice (some ⟨W2.heap.size + 2, 0, none⟩) 0 0, .int .i64 z] 0), setAll_below (g := w.heap.size + 1) (by omega) [.slice (some ⟨W2.heap.size + 2, 0, none⟩) 0 0, .int .i64 z] 0 K9.out⟩
  | true =>
    have cR := Lib.hid (recall_right (cap := cap) HN.out HI.out hn hM)
    have ND := Lib.hid (memB_true hM).2.2.1
    have h6l := (memB_true hM).2.1
    cases hD : isDrawB x with
    | false =>
      rw [hD] at cD
      obtain ⟨e1, e2, e3⟩ := (⟨sinceI_true hM, (noted_no hM (.inl hD)).2.1, (noted_no hM (.inl hD)).1⟩ : sinceI zs s = s ∧ notedL zs s x = zs ∧ notedB zs s x = false)
      have E1 := Lib.hid e1
      have E2 := Lib.hid e2
      have E3 := Lib.hid e3
      clear e1 e2 e3
      clear hM hD
      obtain ⟨⟨a0, a1⟩, _⟩ := blk2 B0.out
      go_enter Try.func13, Try.ntmps13
      go_wp2_with fail
      clear hV a0 a1
      refine cR.out.mono ?_
      rintro e w1 ⟨b, rfl, hp, hbl, bb⟩
      have P := Lib.hid hp
      replace K := Lib.hid (K.out.trans (bb.mono K.out.size))
      have s1 := bb.size
      replace R := Lib.hid (blk_on bb R.out)
      clear hp bb cR
      obtain ⟨W2, hW2⟩ : ∃ W, w1.alloc (.cells #[.map (some b), .int .i64 s] 58) = W := ⟨_, rfl⟩
      have bb : Below w1.heap.size w1 W2 := hW2 ▸ (Below.refl _ w1).alloc (Nat.le_refl _) _
      have G : Hid (W2.heap[w1.heap.size]? = some (.cells #[.map (some b), .int .i64 s] 58)) := by rw [← hW2]; exact heap1 w1 _
      have s2 : w1.heap.size < W2.heap.size := by rw [← hW2]; simp
      replace P := Lib.hid (P.out.on bb)
      replace K := Lib.hid (K.out.trans (bb.mono K.out.size))
      replace R := Lib.hid (blk_on bb R.out)
      clear bb
      obtain ⟨⟨g0, g1⟩, _⟩ := blk2 G.out
      go_wp2_with fail
      clear hW2
      refine (cD _).mono ?_
      rintro e w3 ⟨rfl, rfl⟩
      go_wp2_with fail
      clear g0 g1
      refine (told_any b zs ND.out (by omega) s W2 P.out).mono ?_
      rintro e w9 ⟨rfl, hrow, bb⟩
      have R9 := Lib.hid (blk_on bb R.out)
      have K9 := Lib.hid (K.out.trans (bb.mono K.out.size))
      have O := Lib.hid (ownN_row (base := w.heap.size) hrow rfl (by omega) (by omega))
      have s9 := bb.size
      clear bb hrow
      obtain ⟨⟨r0, r1⟩, p0, p1⟩ := blk2 R9.out
      go_wp2
      exact row_ret2 (r := w.heap.size + 1) (cs := #[.slice (some ⟨W2.heap.size + 2, 0, none⟩) (zs).length (zs).length, .int .i64 s]) rfl rfl rfl (setAll_whole (vs := [.slice (some ⟨W2.heap.size + 2, 0, none⟩) (zs).length (zs).length, .int .i64 s]) R9.out rfl) Try.underlying26 rfl (by kernel_rfl) rfl
        ⟨some ⟨W2.heap.size + 2, 0, none⟩, (zs).length, (zs).length, by rw [E1.out, E3.out]; rfl, by rw [E2.out]; exact O.out.heap (fun k e => by obtain rfl : W2.heap.size + 2 = k := Option.some.inj e; exact setAll_off (g := w.heap.size + 1) (by omega) [.slice (some ⟨W2.heap.size + 2, 0, none⟩) (zs).length (zs).length, .int .i64 s] 0), setAll_below (g := w.heap.size + 1) (by omega) [.slice (some ⟨W2.heap.size + 2, 0, none⟩) (zs).length (zs).length, .int .i64 s] 0 K9.out⟩
    | true =>
      rw [hD] at cD
      have HX : I64 x := by have := isDraw_iff.1 hD; exact i64_of (by omega) (by omega)
      have cH : Hid (∀ (b : Nat) (w' : World), Places w' b zs → Calls Try.prog 41 #[.map (some b), .int .i64 x] w' fun e w'' => e = .returned (.bool (decide (x ∈ zs))) ∧ Below w'.heap.size w' w'') := fun b w' hp => has_any b zs x HX w' hp
      have cF : Hid (∀ (b : Nat) (w' : World), Places w' b zs → Calls Try.prog 42 #[.agg #[.map (some b), .int .i64 s]] w' fun e w'' => e = .returned (.bool (decide (zs.length = 6))) ∧ Below w'.heap.size w' w'') := fun b w' hp => isFull_any b zs ND.out s w' hp
      by_cases hxm : x ∈ zs
      · rw [decide_eq_true hxm] at cH
        obtain ⟨e1, e2, e3⟩ := (⟨sinceI_true hM, (noted_no hM (.inr (.inl hxm))).2.1, (noted_no hM (.inr (.inl hxm))).1⟩ : sinceI zs s = s ∧ notedL zs s x = zs ∧ notedB zs s x = false)
        have E1 := Lib.hid e1
        have E2 := Lib.hid e2
        have E3 := Lib.hid e3
        clear e1 e2 e3
        clear hM hD hxm cF
        obtain ⟨⟨a0, a1⟩, _⟩ := blk2 B0.out
        go_enter Try.func13, Try.ntmps13
        go_wp2_with fail
        clear hV a0 a1
        refine cR.out.mono ?_
        rintro e w1 ⟨b, rfl, hp, hbl, bb⟩
        have P := Lib.hid hp
        replace K := Lib.hid (K.out.trans (bb.mono K.out.size))
        have s1 := bb.size
        replace R := Lib.hid (blk_on bb R.out)
        clear hp bb cR
        obtain ⟨W2, hW2⟩ : ∃ W, w1.alloc (.cells #[.map (some b), .int .i64 s] 58) = W := ⟨_, rfl⟩
        have bb : Below w1.heap.size w1 W2 := hW2 ▸ (Below.refl _ w1).alloc (Nat.le_refl _) _
        have G : Hid (W2.heap[w1.heap.size]? = some (.cells #[.map (some b), .int .i64 s] 58)) := by rw [← hW2]; exact heap1 w1 _
        have s2 : w1.heap.size < W2.heap.size := by rw [← hW2]; simp
        replace P := Lib.hid (P.out.on bb)
        replace K := Lib.hid (K.out.trans (bb.mono K.out.size))
        replace R := Lib.hid (blk_on bb R.out)
        clear bb
        obtain ⟨⟨g0, g1⟩, _⟩ := blk2 G.out
        go_wp2_with fail
        clear hW2
        refine (cD _).mono ?_
        rintro e w3 ⟨rfl, rfl⟩
        go_wp2_with fail
        clear g0 g1
        refine (cH.out _ _ P.out).mono ?_
        rintro e w4 ⟨rfl, bb⟩
        replace G := Lib.hid (blk_on bb G.out)
        replace R := Lib.hid (blk_on bb R.out)
        replace P := Lib.hid (P.out.on bb)
        replace K := Lib.hid (K.out.trans (bb.mono K.out.size))
        have s4 := bb.size
        clear bb
        obtain ⟨⟨g0, g1⟩, _⟩ := blk2 G.out
        go_wp2_with fail
        clear g0 g1
        refine (told_any b zs ND.out (by omega) s w4 P.out).mono ?_
        rintro e w9 ⟨rfl, hrow, bb⟩
        have R9 := Lib.hid (blk_on bb R.out)
        have K9 := Lib.hid (K.out.trans (bb.mono K.out.size))
        have O := Lib.hid (ownN_row (base := w.heap.size) hrow rfl (by omega) (by omega))
        have s9 := bb.size
        clear bb hrow
        obtain ⟨⟨r0, r1⟩, p0, p1⟩ := blk2 R9.out
        go_wp2
        exact row_ret2 (r := w.heap.size + 1) (cs := #[.slice (some ⟨w4.heap.size + 2, 0, none⟩) (zs).length (zs).length, .int .i64 s]) rfl rfl rfl (setAll_whole (vs := [.slice (some ⟨w4.heap.size + 2, 0, none⟩) (zs).length (zs).length, .int .i64 s]) R9.out rfl) Try.underlying26 rfl (by kernel_rfl) rfl
          ⟨some ⟨w4.heap.size + 2, 0, none⟩, (zs).length, (zs).length, by rw [E1.out, E3.out]; rfl, by rw [E2.out]; exact O.out.heap (fun k e => by obtain rfl : w4.heap.size + 2 = k := Option.some.inj e; exact setAll_off (g := w.heap.size + 1) (by omega) [.slice (some ⟨w4.heap.size + 2, 0, none⟩) (zs).length (zs).length, .int .i64 s] 0), setAll_below (g := w.heap.size + 1) (by omega) [.slice (some ⟨w4.heap.size + 2, 0, none⟩) (zs).length (zs).length, .int .i64 s] 0 K9.out⟩
      rw [decide_eq_false hxm] at cH
      by_cases h6 : zs.length = 6
      · rw [decide_eq_true h6] at cF
        obtain ⟨e1, e2, e3⟩ := (⟨sinceI_true hM, (noted_no (x := x) hM (.inr (.inr h6))).2.1, (noted_no (x := x) hM (.inr (.inr h6))).1⟩ : sinceI zs s = s ∧ notedL zs s x = zs ∧ notedB zs s x = false)
        have E1 := Lib.hid e1
        have E2 := Lib.hid e2
        have E3 := Lib.hid e3
        clear e1 e2 e3
        clear hM hD hxm h6
        obtain ⟨⟨a0, a1⟩, _⟩ := blk2 B0.out
        go_enter Try.func13, Try.ntmps13
        go_wp2_with fail
        clear hV a0 a1
        refine cR.out.mono ?_
        rintro e w1 ⟨b, rfl, hp, hbl, bb⟩
        have P := Lib.hid hp
        replace K := Lib.hid (K.out.trans (bb.mono K.out.size))
        have s1 := bb.size
        replace R := Lib.hid (blk_on bb R.out)
        clear hp bb cR
        obtain ⟨W2, hW2⟩ : ∃ W, w1.alloc (.cells #[.map (some b), .int .i64 s] 58) = W := ⟨_, rfl⟩
        have bb : Below w1.heap.size w1 W2 := hW2 ▸ (Below.refl _ w1).alloc (Nat.le_refl _) _
        have G : Hid (W2.heap[w1.heap.size]? = some (.cells #[.map (some b), .int .i64 s] 58)) := by rw [← hW2]; exact heap1 w1 _
        have s2 : w1.heap.size < W2.heap.size := by rw [← hW2]; simp
        replace P := Lib.hid (P.out.on bb)
        replace K := Lib.hid (K.out.trans (bb.mono K.out.size))
        replace R := Lib.hid (blk_on bb R.out)
        clear bb
        obtain ⟨⟨g0, g1⟩, _⟩ := blk2 G.out
        go_wp2_with fail
        clear hW2
        refine (cD _).mono ?_
        rintro e w3 ⟨rfl, rfl⟩
        go_wp2_with fail
        clear g0 g1
        refine (cH.out _ _ P.out).mono ?_
        rintro e w4 ⟨rfl, bb⟩
        replace G := Lib.hid (blk_on bb G.out)
        replace R := Lib.hid (blk_on bb R.out)
        replace P := Lib.hid (P.out.on bb)
        replace K := Lib.hid (K.out.trans (bb.mono K.out.size))
        have s4 := bb.size
        clear bb
        obtain ⟨⟨g0, g1⟩, _⟩ := blk2 G.out
        go_wp2_with fail
        clear g0 g1
        refine (cF.out _ _ P.out).mono ?_
        rintro e w5 ⟨rfl, bb⟩
        replace G := Lib.hid (blk_on bb G.out)
        replace R := Lib.hid (blk_on bb R.out)
        replace P := Lib.hid (P.out.on bb)
        replace K := Lib.hid (K.out.trans (bb.mono K.out.size))
        have s5 := bb.size
        clear bb
        obtain ⟨⟨g0, g1⟩, _⟩ := blk2 G.out
        go_wp2_with fail
        clear g0 g1
        refine (told_any b zs ND.out (by omega) s w5 P.out).mono ?_
        rintro e w9 ⟨rfl, hrow, bb⟩
        have R9 := Lib.hid (blk_on bb R.out)
        have K9 := Lib.hid (K.out.trans (bb.mono K.out.size))
        have O := Lib.hid (ownN_row (base := w.heap.size) hrow rfl (by omega) (by omega))
        have s9 := bb.size
        clear bb hrow
        obtain ⟨⟨r0, r1⟩, p0, p1⟩ := blk2 R9.out
        go_wp2
        exact row_ret2 (r := w.heap.size + 1) (cs := #[.slice (some ⟨w5.heap.size + 2, 0, none⟩) (zs).length (zs).length, .int .i64 s]) rfl rfl rfl (setAll_whole (vs := [.slice (some ⟨w5.heap.size + 2, 0, none⟩) (zs).length (zs).length, .int .i64 s]) R9.out rfl) Try.underlying26 rfl (by kernel_rfl) rfl
          ⟨some ⟨w5.heap.size + 2, 0, none⟩, (zs).length, (zs).length, by rw [E1.out, E3.out]; rfl, by rw [E2.out]; exact O.out.heap (fun k e => by obtain rfl : w5.heap.size + 2 = k := Option.some.inj e; exact setAll_off (g := w.heap.size + 1) (by omega) [.slice (some ⟨w5.heap.size + 2, 0, none⟩) (zs).length (zs).length, .int .i64 s] 0), setAll_below (g := w.heap.size + 1) (by omega) [.slice (some ⟨w5.heap.size + 2, 0, none⟩) (zs).length (zs).length, .int .i64 s] 0 K9.out⟩
      rw [decide_eq_false h6] at cF
      obtain ⟨e1, e2, e3⟩ := (⟨sinceI_true hM, (noted_yes hM hD hxm h6).2.1, (noted_yes hM hD hxm h6).1⟩ : sinceI zs s = s ∧ notedL zs s x = zs ++ [x] ∧ notedB zs s x = true)
      have E1 := Lib.hid e1
      have E2 := Lib.hid e2
      have E3 := Lib.hid e3
      clear e1 e2 e3
      obtain ⟨L, HL2⟩ : ∃ L, Hid (zs ++ [x] = L) := ⟨_, rfl⟩
      rw [HL2.out] at E2
      have ND2 : Hid (L.Nodup) := by have := (notedL_nodup zs s x).1; rwa [E2.out] at this
      have hL7 : L.length ≤ 1048576 := by rw [← HL2.out]; simp; omega
      have hkey : keyOf Try.prog 2 (.int .i64 x) = some (.int .i64 x) := Maps.keyOf_int_mk Try.underlying2 HX
      have hsz := size_all ND.out
      clear hM hD hxm h6 HX
      obtain ⟨⟨a0, a1⟩, _⟩ := blk2 B0.out
      go_enter Try.func13, Try.ntmps13
      go_wp2_with fail
      clear hV a0 a1
      refine cR.out.mono ?_
      rintro e w1 ⟨b, rfl, hp, hbl, bb⟩
      have P := Lib.hid hp
      replace K := Lib.hid (K.out.trans (bb.mono K.out.size))
      have s1 := bb.size
      replace R := Lib.hid (blk_on bb R.out)
      clear hp bb cR
      obtain ⟨W2, hW2⟩ : ∃ W, w1.alloc (.cells #[.map (some b), .int .i64 s] 58) = W := ⟨_, rfl⟩
      have bb : Below w1.heap.size w1 W2 := hW2 ▸ (Below.refl _ w1).alloc (Nat.le_refl _) _
      have G : Hid (W2.heap[w1.heap.size]? = some (.cells #[.map (some b), .int .i64 s] 58)) := by rw [← hW2]; exact heap1 w1 _
      have s2 : w1.heap.size < W2.heap.size := by rw [← hW2]; simp
      replace P := Lib.hid (P.out.on bb)
      replace K := Lib.hid (K.out.trans (bb.mono K.out.size))
      replace R := Lib.hid (blk_on bb R.out)
      clear bb
      obtain ⟨⟨g0, g1⟩, _⟩ := blk2 G.out
      go_wp2_with fail
      clear hW2
      refine (cD _).mono ?_
      rintro e w3 ⟨rfl, rfl⟩
      go_wp2_with fail
      clear g0 g1
      refine (cH.out _ _ P.out).mono ?_
      rintro e w4 ⟨rfl, bb⟩
      replace G := Lib.hid (blk_on bb G.out)
      replace R := Lib.hid (blk_on bb R.out)
      replace P := Lib.hid (P.out.on bb)
      replace K := Lib.hid (K.out.trans (bb.mono K.out.size))
      have s4 := bb.size
      clear bb
      obtain ⟨⟨g0, g1⟩, _⟩ := blk2 G.out
      go_wp2_with fail
      clear g0 g1
      refine (cF.out _ _ P.out).mono ?_
      rintro e w5 ⟨rfl, bb⟩
      replace G := Lib.hid (blk_on bb G.out)
      replace R := Lib.hid (blk_on bb R.out)
      replace P := Lib.hid (P.out.on bb)
      replace K := Lib.hid (K.out.trans (bb.mono K.out.size))
      have s5 := bb.size
      clear bb
      obtain ⟨⟨g0, g1⟩, _⟩ := blk2 G.out
      go_wp2_with (first
        | (at_len; refine wpList_len_own _ rfl _ 56 rfl 2 3 Try.underlying56 _ b zs.length (placesD (H := Unit) zs zs.length) rfl P.out ?_; rw [hsz])
        | (at_mapUpdate; refine wpList_mapUpdate_own _ rfl _ _ _ 56 rfl 2 3 keyed Try.underlying56 _ b zs.length _ rfl P.out (by unfold maxLen; omega) _ _ _ rfl rfl hkey _ [] (plainElem_int Try.underlying3 (WalkArith.wf_i64 (by omega))) ?_; intro w6 hown6 hg6; have P6 : Places w6 b L := (by rw [← HL2.out]; unfold Places; rw [← places_snoc]; simpa using hown6); have HP6 := Lib.hid P6; have K6 := Lib.hid (K.out.grown hg6 K.out.size (fun j e => by have e1 : b = j := Option.some.inj e; omega)); have bG : w6.heap[w1.heap.size]? = some (.cells #[.map (some b), .int .i64 s] 58) := (hg6.block _ (blk_in G.out) (by intro e; have e1 : w1.heap.size = b := Option.some.inj e; exact places_ne P.out G.out e1)).trans G.out; have bR : w6.heap[w.heap.size + 1]? = some (.cells #[.slice none 0 0, .int .i64 0] 26) := (hg6.block _ (blk_in R.out) (by intro e; have e1 : w.heap.size + 1 = b := Option.some.inj e; omega)).trans R.out; have G6 := Lib.hid bG; have R6 := Lib.hid bR; have s6 := hg6.size; have x0 := blk_cell bG 0; have x1 := blk_cell bG 1; clear hown6 hg6 P6 bG bR)
        | fail)
      clear g0 g1 x0 x1
      refine (told_any b L ND2.out hL7 s w6 HP6.out).mono ?_
      rintro e w9 ⟨rfl, hrow, bb⟩
      have R9 := Lib.hid (blk_on bb R6.out)
      have K9 := Lib.hid (K6.out.trans (bb.mono K6.out.size))
      have O := Lib.hid (ownN_row (base := w.heap.size) hrow rfl (by omega) hL7)
      have s9 := bb.size
      clear bb hrow
      obtain ⟨⟨r0, r1⟩, p0, p1⟩ := blk2 R9.out
      go_wp2
      exact row_ret2 (r := w.heap.size + 1) (cs := #[.slice (some ⟨w6.heap.size + 2, 0, none⟩) (L).length (L).length, .int .i64 s]) rfl rfl rfl (setAll_whole (vs := [.slice (some ⟨w6.heap.size + 2, 0, none⟩) (L).length (L).length, .int .i64 s]) R9.out rfl) Try.underlying26 rfl (by kernel_rfl) rfl
        ⟨some ⟨w6.heap.size + 2, 0, none⟩, (L).length, (L).length, by rw [E1.out, E3.out]; rfl, by rw [E2.out]; exact O.out.heap (fun k e => by obtain rfl : w6.heap.size + 2 = k := Option.some.inj e; exact setAll_off (g := w.heap.size + 1) (by omega) [.slice (some ⟨w6.heap.size + 2, 0, none⟩) (L).length (L).length, .int .i64 s] 0), setAll_below (g := w.heap.size + 1) (by omega) [.slice (some ⟨w6.heap.size + 2, 0, none⟩) (L).length (L).length, .int .i64 s] 0 K9.out⟩

end Go.Proofs.Ytdpdbidjbidmaaa.Tx
