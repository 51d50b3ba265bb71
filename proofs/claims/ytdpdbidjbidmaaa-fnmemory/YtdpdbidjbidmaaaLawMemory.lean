/-
  The law FnMemory returns true at every code, and the code reads behind the call as it read before: what was noted may not be heard again, nor behind a fall, and the program answers as the model. No condition.
-/
import Derived.Test.YtdpdbidjbidmaaaRows
import Derived.WalkKit
import Derived.ProofKit
import Derived.OpenShut
import Derived.ShutString
import Derived.ChangeOld
import Derived.Below
import Derived.SliceStrings
import Derived.Lib.SmallJoins
import Derived.Deep.DeepCutAuto
import Derived.Test.YtdpdbidjbidmaaaImpl8d
import Derived.Test.YtdpdbidjbidmaaaDraw8b
namespace Go.Proofs.Ytdpdbidjbidmaaa.fnMemory
open Go.ChangeShapes Go.WideShapes Go.ChangeAt Go.RowKit
open Go.ChangeMaps (open_string shut_string)
set_option linter.unusedVariables false

theorem hear_zero {zs : List Int} {s x said now : Int} (h : Tx.hearI zs s x said now = 0) : Tx.askB zs s x said now = true ∧ ¬ now ≤ s + 61 ∧ ¬ (now + 30 < said ∨ said < now - 30) ∧ ¬ x ∈ zs ∧ ¬ zs.length = 6 := by
  cases ha : Tx.askB zs s x said now
  · rw [Tx.hear_bad ha] at h; omega
  by_cases h1 : now ≤ s + 61
  · rw [Tx.hear_young ha h1] at h; omega
  by_cases h2 : now + 30 < said ∨ said < now - 30
  · rw [Tx.hear_stale ha h1 h2] at h; omega
  by_cases h3 : x ∈ zs
  · rw [Tx.hear_seen ha h1 h2 h3] at h; omega
  by_cases h4 : zs.length = 6
  · rw [Tx.hear_full ha h1 h2 h3 h4] at h; omega
  exact ⟨rfl, h1, h2, h3, h4⟩
theorem hear_three {zs : List Int} {s x said now : Int} (h : Tx.hearI zs s x said now = 3) : x ∈ zs := by
  cases ha : Tx.askB zs s x said now
  · rw [Tx.hear_bad ha] at h; omega
  by_cases h1 : now ≤ s + 61
  · rw [Tx.hear_young ha h1] at h; omega
  by_cases h2 : now + 30 < said ∨ said < now - 30
  · rw [Tx.hear_stale ha h1 h2] at h; omega
  by_cases h3 : x ∈ zs
  · exact h3
  by_cases h4 : zs.length = 6
  · rw [Tx.hear_full ha h1 h2 h3 h4] at h; omega
  · rw [Tx.hear_yes ha h1 h2 h3 h4] at h; omega
/-- What was noted may not be heard again. -/
theorem noted_again {zs : List Int} {s x said now : Int} (h : Tx.hearI zs s x said now = 0) : Tx.hearI (Tx.notedL zs s x) s x said now = 3 := by
  obtain ⟨ha, h1, h2, h3, h4⟩ := hear_zero h
  obtain ⟨hm, hd, hs, hn⟩ := Tx.askB_true ha
  obtain ⟨e1, e2, _⟩ := Tx.noted_yes hm hd h3 h4
  have hr := Tx.notedL_right e1
  rw [e2]
  refine Tx.hear_seen ?_ h1 h2 (by simp)
  unfold Tx.askB
  rw [hr, hd, Tx.inB_mk hs, Tx.inB_mk hn]; rfl
/-- Nor behind a fall. -/
theorem fall_again {zs : List Int} {s x said now fall again : Int} (h : Tx.hearI zs s x said now = 0) (h1 : now ≤ fall) : ¬ Tx.hearI [] fall x said again = 0 := fun h0 => by
  obtain ⟨_, _, a2, _⟩ := hear_zero h
  obtain ⟨_, b1, b2, _⟩ := hear_zero h0
  omega
theorem seen_not {zs : List Int} {s x said now : Int} (h : x ∈ zs) : ¬ Tx.hearI zs s x said now = 0 := fun h0 => (hear_zero h0).2.2.2.1 h
theorem noted_facts {zs : List Int} {s d : Int} (h : Tx.notedB zs s d = true) : Tx.memB (Tx.notedL zs s d) (Tx.sinceI zs s) = true ∧ d ∈ Tx.notedL zs s d := by
  have hm := (Tx.notedB_true h).1
  rw [Tx.notedL_true h, Tx.sinceI_true hm]
  exact ⟨Tx.notedL_right h, by simp⟩
theorem noted_i64 {zs : List Int} {s d : Int} (h : Tx.AllI64 zs) (hd : Tx.I64 d) : Tx.AllI64 (Tx.notedL zs s d) := by
  cases hb : Tx.notedB zs s d
  · rw [Tx.notedL_false hb]
    unfold Tx.seenL
    split
    · exact h
    · exact Tx.allI64_nil
  · rw [Tx.notedL_true hb]; exact h.snoc hd

set_option maxRecDepth 100000 in
set_option maxHeartbeats 16000000 in
theorem walk (w : World) (A : Option Addr) (n cap : Nat) (hb : Tx.BytesAt w w.heap.size A n) (hl : n ≤ maxLen) :
    Calls Try.prog 3 #[.slice A n cap] w fun e w' => e = .returned (.bool true) ∧ Below w.heap.size w w' := by
  unfold maxLen at hl
  have BT := Lib.hid hb
  have K := Lib.hid (Below.refl w.heap.size w)
  clear hb
  by_cases hbig : 4096 < n
  · have hd : decide (4096 < n) = true := by simpa using hbig
    go_enter Try.func3, Try.ntmps3
    go_wp2_with fail
    refine (Tx.big_any _ _ _ _).mono ?_
    rintro e w' ⟨rfl, rfl⟩
    go_wp2
    go_ret
    exact ⟨rfl, Below.refl _ _⟩
  have hd : decide (4096 < n) = false := by simpa using hbig
  have hn : n ≤ 4096 := by omega
  clear hbig
  go_enter Try.func3, Try.ntmps3
  go_wp2_with fail
  refine (Tx.big_any _ _ _ _).mono ?_
  rintro e w' ⟨rfl, rfl⟩
  clear hd
  go_wp2_with fail
  refine (Tx.DrawMayHear_any _ A n cap hn (BT.out.up K.out.size)).mono ?_
  rintro e w1 ⟨zs, B, m, c, s, x, said, now, hsm, hx, hsa, hno, rfl, ho, b⟩
  obtain rfl : m = zs.length := ho.len.symm
  have hl7 : zs.length ≤ 1048576 := Nat.le_trans hsm.1 (by omega)
  have HI := Lib.hid hsm.i64
  have HX : Hid (Tx.I64 x) := Tx.i64_of (by omega) (by omega)
  obtain ⟨hx0, hx1⟩ := hx
  obtain ⟨hsa0, hsa1⟩ := hsa
  obtain ⟨hno0, hno1⟩ := hno
  clear hsm
  have P0 := Lib.hid ho
  clear ho
  have t1 := b.size
  replace BT := Lib.hid (BT.out.below (b.mono K.out.size))
  replace K := Lib.hid (K.out.trans (b.mono K.out.size))
  clear b
  have P := P0
  clear P0
  obtain ⟨W2, hW2⟩ : ∃ W, w1.alloc (.cells #[.slice B zs.length c, .int .i64 s] 26) = W := ⟨_, rfl⟩
  have b : Below w1.heap.size w1 W2 := hW2 ▸ (Below.refl _ w1).alloc (Nat.le_refl _) _
  have M10 : Hid (W2.heap[w1.heap.size]? = some (.cells #[.slice B zs.length c, .int .i64 s] 26)) := by rw [← hW2]; exact Tx.heap1 w1 _
  have uW2 : w1.heap.size < W2.heap.size := by rw [← hW2]; simp
  have t2 := b.size
  replace BT := Lib.hid (BT.out.below (b.mono K.out.size))
  replace K := Lib.hid (K.out.trans (b.mono K.out.size))
  replace P := Lib.hid (P.out.on b)
  clear b
  have M1 := M10
  clear M10
  obtain ⟨kk, hkk⟩ : ∃ k, Tx.hearI zs s x said now = k := ⟨_, rfl⟩
  have HK := Lib.hid hkk
  have hkn : (kk != kk) = false := by simp
  have cK : Hid (∀ w' : World, Tx.Nums w' w'.heap.size B zs.length zs → Calls Try.prog 11 #[.agg #[.slice B zs.length c, .int .i64 s], .int .i64 x, .int .i64 said, .int .i64 now] w' fun e w'' => e = .returned (.int .i64 kk) ∧ Below w'.heap.size w' w'') := fun w' hN => by
    have h1 := Tx.MayHear_impl B zs.length c zs s x said now w' hN HI.out hl7
    rwa [hkk] at h1
  have cKS : Hid (∀ w' : World, Tx.Nums w' w'.heap.size B zs.length zs → Calls Try.prog 16 #[.agg #[.slice B zs.length c, .int .i64 s], .int .i64 x, .int .i64 said, .int .i64 now] w' fun e w'' => e = .returned (.int .i64 kk) ∧ Below w'.heap.size w' w'') := fun w' hN => by
    have h1 := Tx.MayHear_spec B zs.length c zs s x said now w' hN hl7
    rwa [hkk] at h1
  clear hkk
  obtain ⟨⟨a0, a1⟩, _⟩ := Tx.blk2 M1.out
  go_wp2_with fail
  clear a0 a1 hW2
  refine (cK.out _ P.out.nums).mono ?_
  rintro e w3 ⟨rfl, b⟩
  have t3 := b.size
  replace BT := Lib.hid (BT.out.below (b.mono K.out.size))
  replace K := Lib.hid (K.out.trans (b.mono K.out.size))
  replace P := Lib.hid (P.out.on b)
  replace M1 := Lib.hid (Tx.blk_on b M1.out)
  clear b
  clear cK
  go_wp2_with fail
  refine (Tx.DrawNoted_any _ A n cap hn (BT.out.up K.out.size)).mono ?_
  rintro e w4 ⟨zq, Bq, mq, cq, sq, d, hsm, hd, rfl, ho, b⟩
  obtain rfl : mq = zq.length := ho.len.symm
  have hq7 : zq.length ≤ 1048576 := Nat.le_trans hsm.1 (by omega)
  have HQ := Lib.hid hsm.i64
  have HD : Hid (Tx.I64 d) := Tx.i64_of (by omega) (by omega)
  have HNC := Lib.hid ho.nilcap
  clear hsm hd
  have Q0 := Lib.hid ho
  clear ho
  have t4 := b.size
  replace BT := Lib.hid (BT.out.below (b.mono K.out.size))
  replace K := Lib.hid (K.out.trans (b.mono K.out.size))
  replace P := Lib.hid (P.out.on b)
  replace M1 := Lib.hid (Tx.blk_on b M1.out)
  clear b
  have Q := Q0
  clear Q0
  obtain ⟨W5, hW5⟩ : ∃ W, w4.alloc (.cells #[.slice Bq zq.length cq, .int .i64 sq] 26) = W := ⟨_, rfl⟩
  have b : Below w4.heap.size w4 W5 := hW5 ▸ (Below.refl _ w4).alloc (Nat.le_refl _) _
  have M20 : Hid (W5.heap[w4.heap.size]? = some (.cells #[.slice Bq zq.length cq, .int .i64 sq] 26)) := by rw [← hW5]; exact Tx.heap1 w4 _
  have uW5 : w4.heap.size < W5.heap.size := by rw [← hW5]; simp
  have t5 := b.size
  replace BT := Lib.hid (BT.out.below (b.mono K.out.size))
  replace K := Lib.hid (K.out.trans (b.mono K.out.size))
  replace P := Lib.hid (P.out.on b)
  replace M1 := Lib.hid (Tx.blk_on b M1.out)
  replace Q := Lib.hid (Q.out.on b)
  clear b
  have M2 := M20
  clear M20
  obtain ⟨xl, hxl⟩ : ∃ o, Tx.notedL zq sq d = o := ⟨_, rfl⟩
  obtain ⟨tq, htq⟩ : ∃ o, Tx.sinceI zq sq = o := ⟨_, rfl⟩
  obtain ⟨yy, hyy⟩ : ∃ o, Tx.notedB zq sq d = o := ⟨_, rfl⟩
  have hyn : (yy != yy) = false := by simp
  have hx6 : xl.length ≤ 1048576 := by rw [← hxl]; exact Nat.le_trans (Tx.notedL_nodup zq sq d).2 (by omega)
  have HXL : Hid (Tx.AllI64 xl) := by rw [← hxl]; exact noted_i64 HQ.out HD.out
  have HF1 : Hid (yy = true → Tx.memB xl tq = true ∧ d ∈ xl) := fun h => by rw [← hxl, ← htq]; exact noted_facts (hyy.trans h)
  have cNI : Hid (∀ w' : World, Tx.Nums w' w'.heap.size Bq zq.length zq → Calls Try.prog 13 #[.agg #[.slice Bq zq.length cq, .int .i64 sq], .int .i64 d] w' fun e w'' => ∃ (B : Option Addr) (c : Nat), e = .returned (.tuple #[.agg #[.slice B xl.length c, .int .i64 tq], .bool yy]) ∧ Tx.OwnN w'' w'.heap.size xl B xl.length c ∧ Below w'.heap.size w' w'') := fun w' hN => by
    have h1 := Tx.Noted_impl Bq zq.length cq zq sq d w' hN HQ.out hq7
    rw [hxl, htq, hyy] at h1
    exact h1.mono fun e w'' ⟨B, m, c, he, ho, hb⟩ => by obtain rfl := ho.len; exact ⟨B, c, he, ho, hb⟩
  have cNS : Hid (∀ w' : World, Tx.Nums w' w'.heap.size Bq zq.length zq → Calls Try.prog 21 #[.agg #[.slice Bq zq.length cq, .int .i64 sq], .int .i64 d] w' fun e w'' => ∃ (B : Option Addr) (c : Nat), e = .returned (.tuple #[.agg #[.slice B xl.length c, .int .i64 tq], .bool yy]) ∧ Tx.OwnN w'' w'.heap.size xl B xl.length c ∧ Below w'.heap.size w' w'') := fun w' hN => by
    have h1 := Tx.Noted_spec Bq zq.length cq zq sq d w' hN HNC.out hq7
    rw [hxl, htq, hyy] at h1
    exact h1.mono fun e w'' ⟨B, m, c, he, ho, hb⟩ => by obtain rfl := ho.len; exact ⟨B, c, he, ho, hb⟩
  clear hxl htq hyy HNC
  obtain ⟨⟨a0, a1⟩, _⟩ := Tx.blk2 M2.out
  go_wp2_with fail
  clear a0 a1 hW5
  refine (cNI.out _ Q.out.nums).mono ?_
  rintro e w6 ⟨Bx, cx, rfl, ho, b⟩
  have L0 := Lib.hid ho
  clear ho
  have t6 := b.size
  replace BT := Lib.hid (BT.out.below (b.mono K.out.size))
  replace K := Lib.hid (K.out.trans (b.mono K.out.size))
  replace P := Lib.hid (P.out.on b)
  replace M1 := Lib.hid (Tx.blk_on b M1.out)
  replace Q := Lib.hid (Q.out.on b)
  replace M2 := Lib.hid (Tx.blk_on b M2.out)
  clear b
  have L := L0
  clear L0
  clear cNI
  obtain ⟨W7, hW7⟩ : ∃ W, w6.alloc (.cells #[.slice Bx xl.length cx, .int .i64 tq] 26) = W := ⟨_, rfl⟩
  have b : Below w6.heap.size w6 W7 := hW7 ▸ (Below.refl _ w6).alloc (Nat.le_refl _) _
  have M30 : Hid (W7.heap[w6.heap.size]? = some (.cells #[.slice Bx xl.length cx, .int .i64 tq] 26)) := by rw [← hW7]; exact Tx.heap1 w6 _
  have uW7 : w6.heap.size < W7.heap.size := by rw [← hW7]; simp
  have t7 := b.size
  replace BT := Lib.hid (BT.out.below (b.mono K.out.size))
  replace K := Lib.hid (K.out.trans (b.mono K.out.size))
  replace P := Lib.hid (P.out.on b)
  replace M1 := Lib.hid (Tx.blk_on b M1.out)
  replace Q := Lib.hid (Q.out.on b)
  replace M2 := Lib.hid (Tx.blk_on b M2.out)
  replace L := Lib.hid (L.out.on b)
  clear b
  have M3 := M30
  clear M30
  go_wp2_with fail
  clear hW7
  refine (Tx.DrawNewMemory_any _ A n cap hn (BT.out.up K.out.size)).mono ?_
  rintro e w8 ⟨t, ht, rfl, b⟩
  have t8 := b.size
  replace BT := Lib.hid (BT.out.below (b.mono K.out.size))
  replace K := Lib.hid (K.out.trans (b.mono K.out.size))
  replace P := Lib.hid (P.out.on b)
  replace M1 := Lib.hid (Tx.blk_on b M1.out)
  replace Q := Lib.hid (Q.out.on b)
  replace M2 := Lib.hid (Tx.blk_on b M2.out)
  replace L := Lib.hid (L.out.on b)
  replace M3 := Lib.hid (Tx.blk_on b M3.out)
  clear b
  obtain ⟨sy, hsy⟩ : ∃ o, Tx.sinceI [] t = o := ⟨_, rfl⟩
  obtain ⟨ff, hff⟩ : ∃ o, Tx.memB [] t = o := ⟨_, rfl⟩
  have hfn : (ff != ff) = false := by simp
  have HF2 : Hid (ff = true → sy = t) := fun h => by rw [← hsy]; exact Tx.sinceI_true (hff.trans h)
  have cYI : Hid (∀ w' : World, Calls Try.prog 15 #[.int .i64 t] w' fun e w'' => ∃ (B : Option Addr) (c : Nat), e = .returned (.tuple #[.agg #[.slice B 0 c, .int .i64 sy], .bool ff]) ∧ Tx.OwnN w'' w'.heap.size [] B 0 c ∧ Below w'.heap.size w' w'') := fun w' => by
    have h1 := Tx.NewMemory_impl t w'
    rw [hsy, hff] at h1
    exact h1.mono fun e w'' ⟨B, m, c, he, ho, hb⟩ => by obtain rfl := ho.len; exact ⟨B, c, he, ho, hb⟩
  have cYS : Hid (∀ w' : World, Calls Try.prog 23 #[.int .i64 t] w' fun e w'' => ∃ (B : Option Addr) (c : Nat), e = .returned (.tuple #[.agg #[.slice B 0 c, .int .i64 sy], .bool ff]) ∧ Tx.OwnN w'' w'.heap.size [] B 0 c ∧ Below w'.heap.size w' w'') := fun w' => by
    have h1 := Tx.NewMemory_spec t w'
    rw [hsy, hff] at h1
    exact h1.mono fun e w'' ⟨B, m, c, he, ho, hb⟩ => by obtain rfl := ho.len; exact ⟨B, c, he, ho, hb⟩
  clear hsy hff
  go_wp2_with fail
  refine (cYI.out _).mono ?_
  rintro e w9 ⟨By, cy, rfl, ho, b⟩
  have Y0 := Lib.hid ho
  clear ho
  have t9 := b.size
  replace BT := Lib.hid (BT.out.below (b.mono K.out.size))
  replace K := Lib.hid (K.out.trans (b.mono K.out.size))
  replace P := Lib.hid (P.out.on b)
  replace M1 := Lib.hid (Tx.blk_on b M1.out)
  replace Q := Lib.hid (Q.out.on b)
  replace M2 := Lib.hid (Tx.blk_on b M2.out)
  replace L := Lib.hid (L.out.on b)
  replace M3 := Lib.hid (Tx.blk_on b M3.out)
  clear b
  have Y := Y0
  clear Y0
  clear cYI
  obtain ⟨W10, hW10⟩ : ∃ W, w9.alloc (.cells #[.slice By 0 cy, .int .i64 sy] 26) = W := ⟨_, rfl⟩
  have b : Below w9.heap.size w9 W10 := hW10 ▸ (Below.refl _ w9).alloc (Nat.le_refl _) _
  have M40 : Hid (W10.heap[w9.heap.size]? = some (.cells #[.slice By 0 cy, .int .i64 sy] 26)) := by rw [← hW10]; exact Tx.heap1 w9 _
  have uW10 : w9.heap.size < W10.heap.size := by rw [← hW10]; simp
  have t10 := b.size
  replace BT := Lib.hid (BT.out.below (b.mono K.out.size))
  replace K := Lib.hid (K.out.trans (b.mono K.out.size))
  replace P := Lib.hid (P.out.on b)
  replace M1 := Lib.hid (Tx.blk_on b M1.out)
  replace Q := Lib.hid (Q.out.on b)
  replace M2 := Lib.hid (Tx.blk_on b M2.out)
  replace L := Lib.hid (L.out.on b)
  replace M3 := Lib.hid (Tx.blk_on b M3.out)
  replace Y := Lib.hid (Y.out.on b)
  clear b
  have M4 := M40
  clear M40
  obtain ⟨sn, hsn⟩ : ∃ o, decide (d ∈ zq) = o := ⟨_, rfl⟩
  have hsnn : (sn != sn) = false := by simp
  obtain ⟨mo, hmo⟩ : ∃ o, Tx.memB zs s = o := ⟨_, rfl⟩
  have hmon : (mo != mo) = false := by simp
  have cSI : Hid (∀ w' : World, Tx.Nums w' w'.heap.size Bq zq.length zq → Calls Try.prog 17 #[.agg #[.slice Bq zq.length cq, .int .i64 sq], .int .i64 d] w' fun e w'' => e = .returned (.bool sn) ∧ Below w'.heap.size w' w'') := fun w' hN => by
    have h1 := Tx.SeenIn_impl Bq zq.length cq zq sq d w' hN HQ.out HD.out hq7
    rwa [hsn] at h1
  have cSS : Hid (∀ w' : World, Tx.Nums w' w'.heap.size Bq zq.length zq → Calls Try.prog 18 #[.agg #[.slice Bq zq.length cq, .int .i64 sq], .int .i64 d] w' fun e w'' => e = .returned (.bool sn) ∧ Below w'.heap.size w' w'') := fun w' hN => by
    have h1 := Tx.SeenIn_spec Bq zq.length cq zq sq d w' hN hq7
    rwa [hsn] at h1
  have cMI : Hid (∀ w' : World, Tx.Nums w' w'.heap.size B zs.length zs → Calls Try.prog 19 #[.agg #[.slice B zs.length c, .int .i64 s]] w' fun e w'' => e = .returned (.bool mo) ∧ Below w'.heap.size w' w'') := fun w' hN => by
    have h1 := Tx.MemoryOk_impl B zs.length c zs s w' hN hl7
    rwa [hmo] at h1
  have cMS : Hid (∀ w' : World, Tx.Nums w' w'.heap.size B zs.length zs → Calls Try.prog 20 #[.agg #[.slice B zs.length c, .int .i64 s]] w' fun e w'' => e = .returned (.bool mo) ∧ Below w'.heap.size w' w'') := fun w' hN => by
    have h1 := Tx.MemoryOk_spec B zs.length c zs s w' hN hl7
    rwa [hmo] at h1
  clear hsn hmo
  go_wp2
  clear hW10
  refine Tx.wp_region_own (W := W10) [] (fun _ => True) Tx.stays_true trivial [0, 0, 0, 0, 0, 1, 0, 0, 0, 0, 1, 0, 0, 1, 0, 0, 0, 0, 1, 0, 1, 0, 0] (by kernel_rfl) (by kernel_rfl) (by kernel_rfl) ?_
  have fM1 : ∀ q : Tx.In (Tx.plainEnv W10 []), _ := fun q => (Tx.blk2 (q.block M1.out (by simp))).1
  have fM2 : ∀ q : Tx.In (Tx.plainEnv W10 []), _ := fun q => (Tx.blk2 (q.block M2.out (by simp))).1
  refine Tx.wpO_quiet 5 rfl (by kernel_rfl) ?_
  simp only [List.take, List.drop]
  repeat (go_big_quiet_step (fail))
  refine wpQuiet_nil ?_
  refine Tx.wpO_call (f := 16) (args := #[.agg #[.slice B zs.length c, .int .i64 s], .int .i64 x, .int .i64 said, .int .i64 now]) (.int .i64 kk) rfl (fun w' => by simp [go_sem]) (fun w' hw _ => cKS.out w' (P.out.on (Tx.kept_below hw)).nums) ?_
  simp only [Act.put, List.setIfInBounds_toArray, List.set_cons_succ, List.set_cons_zero]
  refine Tx.wpO_quiet 4 rfl (by kernel_rfl) ?_
  simp only [List.take, List.drop]
  repeat (go_big_quiet_step (fail))
  refine wpQuiet_nil ?_
  refine Tx.wpO_call (f := 17) (args := #[.agg #[.slice Bq zq.length cq, .int .i64 sq], .int .i64 d]) (.bool sn) rfl (fun w' => by simp [go_sem]) (fun w' hw _ => cSI.out w' (Q.out.on (Tx.kept_below hw)).nums) ?_
  simp only [Act.put, List.setIfInBounds_toArray, List.set_cons_succ, List.set_cons_zero]
  refine Tx.wpO_quiet 2 rfl (by kernel_rfl) ?_
  simp only [List.take, List.drop]
  repeat (go_big_quiet_step (fail))
  refine wpQuiet_nil ?_
  refine Tx.wpO_call (f := 18) (args := #[.agg #[.slice Bq zq.length cq, .int .i64 sq], .int .i64 d]) (.bool sn) rfl (fun w' => by simp [go_sem]) (fun w' hw _ => cSS.out w' (Q.out.on (Tx.kept_below hw)).nums) ?_
  simp only [Act.put, List.setIfInBounds_toArray, List.set_cons_succ, List.set_cons_zero]
  refine Tx.wpO_quiet 4 rfl (by kernel_rfl) ?_
  simp only [List.take, List.drop]
  repeat (go_big_quiet_step (fail))
  refine wpQuiet_nil ?_
  refine Tx.wpO_call (f := 19) (args := #[.agg #[.slice B zs.length c, .int .i64 s]]) (.bool mo) rfl (fun w' => by simp [go_sem]) (fun w' hw _ => cMI.out w' (P.out.on (Tx.kept_below hw)).nums) ?_
  simp only [Act.put, List.setIfInBounds_toArray, List.set_cons_succ, List.set_cons_zero]
  refine Tx.wpO_quiet 1 rfl (by kernel_rfl) ?_
  simp only [List.take, List.drop]
  repeat (go_big_quiet_step (fail))
  refine wpQuiet_nil ?_
  refine Tx.wpO_call (f := 20) (args := #[.agg #[.slice B zs.length c, .int .i64 s]]) (.bool mo) rfl (fun w' => by simp [go_sem]) (fun w' hw _ => cMS.out w' (P.out.on (Tx.kept_below hw)).nums) ?_
  simp only [Act.put, List.setIfInBounds_toArray, List.set_cons_succ, List.set_cons_zero]
  refine Tx.wpO_quiet 2 rfl (by kernel_rfl) ?_
  simp only [List.take, List.drop]
  repeat (go_big_quiet_step (fail))
  refine wpQuiet_nil ?_
  refine Tx.wpO_nil ?_
  rintro w11 b' _
  have b := Tx.kept_below b'
  clear b' fM1 fM2 cKS cSI cSS cMI cMS hsnn hmon
  have t11 := b.size
  replace BT := Lib.hid (BT.out.below (b.mono K.out.size))
  replace K := Lib.hid (K.out.trans (b.mono K.out.size))
  replace P := Lib.hid (P.out.on b)
  replace M1 := Lib.hid (Tx.blk_on b M1.out)
  replace Q := Lib.hid (Q.out.on b)
  replace M2 := Lib.hid (Tx.blk_on b M2.out)
  replace L := Lib.hid (L.out.on b)
  replace M3 := Lib.hid (Tx.blk_on b M3.out)
  replace Y := Lib.hid (Y.out.on b)
  replace M4 := Lib.hid (Tx.blk_on b M4.out)
  clear b
  obtain ⟨⟨a0, a1⟩, _⟩ := Tx.blk2 M2.out
  go_wp2_with fail
  clear a0 a1
  refine (cNS.out _ Q.out.nums).mono ?_
  rintro e w12 ⟨Bz, cz, rfl, ho, b⟩
  have Z0 := Lib.hid ho
  clear ho
  have t12 := b.size
  replace BT := Lib.hid (BT.out.below (b.mono K.out.size))
  replace K := Lib.hid (K.out.trans (b.mono K.out.size))
  replace P := Lib.hid (P.out.on b)
  replace M1 := Lib.hid (Tx.blk_on b M1.out)
  replace Q := Lib.hid (Q.out.on b)
  replace M2 := Lib.hid (Tx.blk_on b M2.out)
  replace L := Lib.hid (L.out.on b)
  replace M3 := Lib.hid (Tx.blk_on b M3.out)
  replace Y := Lib.hid (Y.out.on b)
  replace M4 := Lib.hid (Tx.blk_on b M4.out)
  clear b
  have Z := Z0
  clear Z0
  clear cNS Q M2
  obtain ⟨W13, hW13⟩ : ∃ W, w12.alloc (.cells #[.slice Bz xl.length cz, .int .i64 tq] 26) = W := ⟨_, rfl⟩
  have b : Below w12.heap.size w12 W13 := hW13 ▸ (Below.refl _ w12).alloc (Nat.le_refl _) _
  have M50 : Hid (W13.heap[w12.heap.size]? = some (.cells #[.slice Bz xl.length cz, .int .i64 tq] 26)) := by rw [← hW13]; exact Tx.heap1 w12 _
  have uW13 : w12.heap.size < W13.heap.size := by rw [← hW13]; simp
  have t13 := b.size
  replace BT := Lib.hid (BT.out.below (b.mono K.out.size))
  replace K := Lib.hid (K.out.trans (b.mono K.out.size))
  replace P := Lib.hid (P.out.on b)
  replace M1 := Lib.hid (Tx.blk_on b M1.out)
  replace L := Lib.hid (L.out.on b)
  replace M3 := Lib.hid (Tx.blk_on b M3.out)
  replace Y := Lib.hid (Y.out.on b)
  replace M4 := Lib.hid (Tx.blk_on b M4.out)
  replace Z := Lib.hid (Z.out.on b)
  clear b
  have M5 := M50
  clear M50
  obtain ⟨⟨a0, a1⟩, _⟩ := Tx.blk2 M3.out
  obtain ⟨⟨c0, c1⟩, _⟩ := Tx.blk2 M5.out
  go_wp2_with fail
  clear a0 a1 c0 c1 hW13
  refine (Tx.likeMemory_same Bx Bz xl.length cx cz xl tq _ L.out.nums Z.out.nums hx6).mono ?_
  rintro e w14 ⟨rfl, b⟩
  have t14 := b.size
  replace BT := Lib.hid (BT.out.below (b.mono K.out.size))
  replace K := Lib.hid (K.out.trans (b.mono K.out.size))
  replace P := Lib.hid (P.out.on b)
  replace M1 := Lib.hid (Tx.blk_on b M1.out)
  replace L := Lib.hid (L.out.on b)
  replace M3 := Lib.hid (Tx.blk_on b M3.out)
  replace Y := Lib.hid (Y.out.on b)
  replace M4 := Lib.hid (Tx.blk_on b M4.out)
  replace Z := Lib.hid (Z.out.on b)
  replace M5 := Lib.hid (Tx.blk_on b M5.out)
  clear b
  clear Z M5
  go_wp2_with fail
  refine (cYS.out _).mono ?_
  rintro e w15 ⟨Bv, cv, rfl, ho, b⟩
  have V0 := Lib.hid ho
  clear ho
  have t15 := b.size
  replace BT := Lib.hid (BT.out.below (b.mono K.out.size))
  replace K := Lib.hid (K.out.trans (b.mono K.out.size))
  replace P := Lib.hid (P.out.on b)
  replace M1 := Lib.hid (Tx.blk_on b M1.out)
  replace L := Lib.hid (L.out.on b)
  replace M3 := Lib.hid (Tx.blk_on b M3.out)
  replace Y := Lib.hid (Y.out.on b)
  replace M4 := Lib.hid (Tx.blk_on b M4.out)
  clear b
  have V := V0
  clear V0
  clear cYS hyn
  obtain ⟨W16, hW16⟩ : ∃ W, w15.alloc (.cells #[.slice Bv 0 cv, .int .i64 sy] 26) = W := ⟨_, rfl⟩
  have b : Below w15.heap.size w15 W16 := hW16 ▸ (Below.refl _ w15).alloc (Nat.le_refl _) _
  have M60 : Hid (W16.heap[w15.heap.size]? = some (.cells #[.slice Bv 0 cv, .int .i64 sy] 26)) := by rw [← hW16]; exact Tx.heap1 w15 _
  have uW16 : w15.heap.size < W16.heap.size := by rw [← hW16]; simp
  have t16 := b.size
  replace BT := Lib.hid (BT.out.below (b.mono K.out.size))
  replace K := Lib.hid (K.out.trans (b.mono K.out.size))
  replace P := Lib.hid (P.out.on b)
  replace M1 := Lib.hid (Tx.blk_on b M1.out)
  replace L := Lib.hid (L.out.on b)
  replace M3 := Lib.hid (Tx.blk_on b M3.out)
  replace Y := Lib.hid (Y.out.on b)
  replace M4 := Lib.hid (Tx.blk_on b M4.out)
  replace V := Lib.hid (V.out.on b)
  clear b
  have M6 := M60
  clear M60
  go_upto_region 15 with fail
  clear hW16
  go_cut [124] (fun cc wx => cc = .bool false ∧ Hid (Below W16.heap.size W16 wx))
  case first =>
    obtain ⟨⟨a0, a1⟩, _⟩ := Tx.blk2 M4.out
    obtain ⟨⟨c0, c1⟩, _⟩ := Tx.blk2 M6.out
    go_wp2_with fail
    clear a0 a1 c0 c1
    refine (Tx.likeMemory_same By Bv 0 cy cv [] sy _ Y.out.nums V.out.nums (by omega)).mono ?_
    rintro e w17 ⟨rfl, b⟩
    have M4' := Lib.hid (Tx.blk_on b M4.out)
    have b' := Lib.hid b
    clear b
    obtain ⟨⟨a0, a1⟩, _⟩ := Tx.blk2 M4'.out
    cases ff with
    | false =>
      go_wp2
      go_meet
      exact ⟨rfl, b'⟩
    | true =>
      obtain rfl : sy = t := HF2.out rfl
      go_wp2
      go_meet
      exact ⟨rfl, b'⟩
  case rest =>
    obtain ⟨rfl, hb⟩ := hcut
    have b := hb.out
    clear hb HF2 hfn
    have t17 := b.size
    replace BT := Lib.hid (BT.out.below (b.mono K.out.size))
    replace K := Lib.hid (K.out.trans (b.mono K.out.size))
    replace P := Lib.hid (P.out.on b)
    replace M1 := Lib.hid (Tx.blk_on b M1.out)
    replace L := Lib.hid (L.out.on b)
    replace M3 := Lib.hid (Tx.blk_on b M3.out)
    replace Y := Lib.hid (Y.out.on b)
    replace M4 := Lib.hid (Tx.blk_on b M4.out)
    replace V := Lib.hid (V.out.on b)
    replace M6 := Lib.hid (Tx.blk_on b M6.out)
    clear b
    clear V M6 Y M4
    have wW : wc = wc := rfl
    go_upto_region 17 with fail
    obtain ⟨W18, hW18⟩ : ∃ W, wc = W := ⟨_, rfl⟩
    subst hW18
    go_cut [142] (fun cc wx => cc = .bool false ∧ Hid (Below wc.heap.size wc wx))
    case first =>
      cases yy with
      | false =>
        go_wp2
        go_meet
        exact ⟨rfl, Below.refl _ _⟩
      | true =>
        obtain ⟨hm, hd⟩ := HF1.out rfl
        have c1 := Tx.MemoryOk_impl Bx xl.length cx xl tq wc L.out.nums hx6
        rw [hm] at c1
        have hv0 := seen_not (s := tq) (said := 100) (now := 100) hd
        obtain ⟨vv, hvv⟩ : ∃ o, Tx.hearI xl tq d 100 100 = o := ⟨_, rfl⟩
        rw [hvv] at hv0
        have hvb : (vv == 0) = false := by rw [beq_eq_false_iff_ne]; exact hv0
        have C1 := Lib.hid c1
        have HV := Lib.hid hvv
        have HDX := Lib.hid (decide_eq_true hd)
        clear c1 hm hd hvv hv0
        obtain ⟨⟨a0, a1⟩, _⟩ := Tx.blk2 M3.out
        go_wp2_with fail
        clear a0 a1
        refine C1.out.mono ?_
        rintro e w19 ⟨rfl, b⟩
        have M3' := Lib.hid (Tx.blk_on b M3.out)
        have L' := Lib.hid (L.out.on b)
        have b' := Lib.hid b
        clear b
        have c2 := Tx.SeenIn_impl Bx xl.length cx xl tq d w19 L'.out.nums HXL.out HD.out hx6
        rw [HDX.out] at c2
        obtain ⟨⟨a0, a1⟩, _⟩ := Tx.blk2 M3'.out
        go_wp2_with fail
        clear a0 a1
        refine c2.mono ?_
        rintro e w20 ⟨rfl, b⟩
        replace M3' := Lib.hid (Tx.blk_on b M3'.out)
        replace L' := Lib.hid (L'.out.on b)
        replace b' := Lib.hid (b'.out.trans (b.mono b'.out.size))
        clear b c2
        have c3 := Tx.MayHear_impl Bx xl.length cx xl tq d 100 100 w20 L'.out.nums HXL.out hx6
        rw [HV.out] at c3
        obtain ⟨⟨a0, a1⟩, _⟩ := Tx.blk2 M3'.out
        go_wp2_with fail
        clear a0 a1
        refine c3.mono ?_
        rintro e w21 ⟨rfl, b⟩
        replace b' := Lib.hid (b'.out.trans (b.mono b'.out.size))
        clear b c3
        go_wp2
        go_meet
        exact ⟨rfl, b'⟩
    case rest =>
      rename_i w22 _
      obtain ⟨rfl, hb⟩ := hcut
      have b := hb.out
      clear hb HF1 HXL
      have t18 := b.size
      replace BT := Lib.hid (BT.out.below (b.mono K.out.size))
      replace K := Lib.hid (K.out.trans (b.mono K.out.size))
      replace P := Lib.hid (P.out.on b)
      replace M1 := Lib.hid (Tx.blk_on b M1.out)
      replace L := Lib.hid (L.out.on b)
      replace M3 := Lib.hid (Tx.blk_on b M3.out)
      clear b
      clear L M3
      by_cases hk0 : kk = 0
      · skip
        subst hk0
        clear hkn
        obtain ⟨ha, _⟩ := hear_zero HK.out
        obtain ⟨nl, hnl⟩ : ∃ o, Tx.notedL zs s x = o := ⟨_, rfl⟩
        have hs3 := noted_again HK.out
        have hsi := Tx.sinceI_true (Tx.askB_true ha).1
        have hn6 : nl.length ≤ 1048576 := by rw [← hnl]; exact Nat.le_trans (Tx.notedL_nodup zs s x).2 (by omega)
        have HNL : Hid (Tx.AllI64 nl) := by rw [← hnl]; exact noted_i64 HI.out HX.out
        obtain ⟨yb, hyb⟩ : ∃ o, Tx.notedB zs s x = o := ⟨_, rfl⟩
        have cN : Hid (∀ w' : World, Tx.Nums w' w'.heap.size B zs.length zs → Calls Try.prog 13 #[.agg #[.slice B zs.length c, .int .i64 s], .int .i64 x] w' fun e w'' => ∃ (D : Option Addr) (c : Nat), e = .returned (.tuple #[.agg #[.slice D nl.length c, .int .i64 s], .bool yb]) ∧ Tx.OwnN w'' w'.heap.size nl D nl.length c ∧ Below w'.heap.size w' w'') := fun w' hN => by
          have h1 := Tx.Noted_impl B zs.length c zs s x w' hN HI.out hl7
          rw [hnl, hsi, hyb] at h1
          exact h1.mono fun e w'' ⟨D, m, c, he, ho, hb⟩ => by obtain rfl := ho.len; exact ⟨D, c, he, ho, hb⟩
        rw [hnl] at hs3
        have H3 := Lib.hid hs3
        clear hnl hsi hyb ha hs3
        obtain ⟨⟨a0, a1⟩, _⟩ := Tx.blk2 M1.out
        go_wp2_with fail
        clear a0 a1
        refine (cN.out _ P.out.nums).mono ?_
        rintro e w23 ⟨D, cd, rfl, ho, b⟩
        have N0 := Lib.hid ho
        clear ho
        have t19 := b.size
        replace BT := Lib.hid (BT.out.below (b.mono K.out.size))
        replace K := Lib.hid (K.out.trans (b.mono K.out.size))
        replace P := Lib.hid (P.out.on b)
        replace M1 := Lib.hid (Tx.blk_on b M1.out)
        clear b
        have N := N0
        clear N0
        clear cN P M1
        obtain ⟨W24, hW24⟩ : ∃ W, w23.alloc (.cells #[.slice D nl.length cd, .int .i64 s] 26) = W := ⟨_, rfl⟩
        have b : Below w23.heap.size w23 W24 := hW24 ▸ (Below.refl _ w23).alloc (Nat.le_refl _) _
        have M70 : Hid (W24.heap[w23.heap.size]? = some (.cells #[.slice D nl.length cd, .int .i64 s] 26)) := by rw [← hW24]; exact Tx.heap1 w23 _
        have uW24 : w23.heap.size < W24.heap.size := by rw [← hW24]; simp
        have t20 := b.size
        replace BT := Lib.hid (BT.out.below (b.mono K.out.size))
        replace K := Lib.hid (K.out.trans (b.mono K.out.size))
        replace N := Lib.hid (N.out.on b)
        clear b
        have M7 := M70
        clear M70
        go_wp2
        clear hW24
        go_loopw [21] (fun ii wr => ∃ j : Nat, j ≤ 4 ∧ ii = .int .i64 j ∧ Hid (Below W24.heap.size W24 wr)) (fun ii _ => 4 - (intOf ii).toNat)
        case atStart => exact ⟨0, by omega, rfl, Below.refl _ _⟩
        case round =>
          obtain ⟨j, hj, rfl, hb⟩ := hrel
          have BW := hb
          have b := hb.out
          clear hb
          have t21 := b.size
          replace BT := Lib.hid (BT.out.below (b.mono K.out.size))
          replace K := Lib.hid (K.out.trans (b.mono K.out.size))
          replace N := Lib.hid (N.out.on b)
          replace M7 := Lib.hid (Tx.blk_on b M7.out)
          clear b
          by_cases hlt : j < 4
          · skip
            go_wp2_with fail
            refine (Tx.pick_any _ A n cap _ 40 hn (BT.out.up K.out.size) (by omega) (by omega) (by omega) (by omega)).mono ?_
            rintro e w25 ⟨⟨p1, hp0, hp1, rfl⟩, rfl⟩
            obtain ⟨fall, hfall⟩ : ∃ o, now + p1 = o := ⟨_, rfl⟩
            have hf0 : now ≤ fall := by omega
            have hf1 : fall ≤ 300000 := by omega
            obtain ⟨sf, hsf⟩ : ∃ o, Tx.sinceI [] fall = o := ⟨_, rfl⟩
            obtain ⟨tf, htf⟩ : ∃ o, Tx.memB [] fall = o := ⟨_, rfl⟩
            have HF : Hid (tf = true → sf = fall) := fun h => by rw [← hsf]; exact Tx.sinceI_true (htf.trans h)
            have cY : Hid (∀ w' : World, Calls Try.prog 15 #[.int .i64 fall] w' fun e w'' => ∃ (B : Option Addr) (c : Nat), e = .returned (.tuple #[.agg #[.slice B 0 c, .int .i64 sf], .bool tf]) ∧ Tx.OwnN w'' w'.heap.size [] B 0 c ∧ Below w'.heap.size w' w'') := fun w' => by
              have h1 := Tx.NewMemory_impl fall w'
              rw [hsf, htf] at h1
              exact h1.mono fun e w'' ⟨B, m, c, he, ho, hb⟩ => by obtain rfl := ho.len; exact ⟨B, c, he, ho, hb⟩
            clear hsf htf
            go_wp2_with fail
            clear hfall
            refine (cY.out _).mono ?_
            rintro e w26 ⟨Bf, cf, rfl, ho, b⟩
            have F0 := Lib.hid ho
            clear ho
            have t22 := b.size
            replace BT := Lib.hid (BT.out.below (b.mono K.out.size))
            replace K := Lib.hid (K.out.trans (b.mono K.out.size))
            replace N := Lib.hid (N.out.on b)
            replace M7 := Lib.hid (Tx.blk_on b M7.out)
            replace BW := Lib.hid (BW.out.trans (b.mono BW.out.size))
            clear b
            have F := F0
            clear F0
            clear cY
            obtain ⟨W27, hW27⟩ : ∃ W, w26.alloc (.cells #[.slice Bf 0 cf, .int .i64 sf] 26) = W := ⟨_, rfl⟩
            have b : Below w26.heap.size w26 W27 := hW27 ▸ (Below.refl _ w26).alloc (Nat.le_refl _) _
            have M80 : Hid (W27.heap[w26.heap.size]? = some (.cells #[.slice Bf 0 cf, .int .i64 sf] 26)) := by rw [← hW27]; exact Tx.heap1 w26 _
            have uW27 : w26.heap.size < W27.heap.size := by rw [← hW27]; simp
            have t23 := b.size
            replace BT := Lib.hid (BT.out.below (b.mono K.out.size))
            replace K := Lib.hid (K.out.trans (b.mono K.out.size))
            replace N := Lib.hid (N.out.on b)
            replace M7 := Lib.hid (Tx.blk_on b M7.out)
            replace BW := Lib.hid (BW.out.trans (b.mono BW.out.size))
            replace F := Lib.hid (F.out.on b)
            clear b
            have M8 := M80
            clear M80
            go_wp2_with fail
            clear hW27
            refine (Tx.pick_any _ A n cap _ 120 hn (BT.out.up K.out.size) (by omega) (by omega) (by omega) (by omega)).mono ?_
            rintro e w28 ⟨⟨p2, hq0, hq1, rfl⟩, rfl⟩
            obtain ⟨again, hag⟩ : ∃ o, fall + p2 = o := ⟨_, rfl⟩
            have hg0 : fall ≤ again := by omega
            have hg1 : again ≤ 400000 := by omega
            obtain ⟨vv, hvv⟩ : ∃ o, Tx.hearI [] fall x said again = o := ⟨_, rfl⟩
            have hv0 := fall_again (again := again) HK.out hf0
            rw [hvv] at hv0
            have hvb : (vv == 0) = false := by rw [beq_eq_false_iff_ne]; exact hv0
            have HV := Lib.hid hvv
            clear hvv hv0
            cases tf with
            | false =>
              go_wp2
              go_roundw
              case rel => exact ⟨j + 1, by omega, by go_num, BW⟩
              case measure => simp [intOf]; omega
            | true =>
              obtain rfl : sf = fall := HF.out rfl
              by_cases hle : again ≤ 100000
              · have c3 := Tx.MayHear_impl Bf 0 cf [] sf x said again W27 F.out.nums Tx.allI64_nil (by omega)
                rw [HV.out] at c3
                obtain ⟨⟨a0, a1⟩, _⟩ := Tx.blk2 M8.out
                go_wp2_with fail
                clear a0 a1 hag
                refine c3.mono ?_
                rintro e w29 ⟨rfl, b⟩
                replace BW : Hid (Below W24.heap.size W24 w29) := BW.out.trans (b.mono BW.out.size)
                clear b c3
                go_wp2
                go_roundw
                case rel => exact ⟨j + 1, by omega, by go_num, BW⟩
                case measure => simp [intOf]; omega
              · go_wp2
                go_roundw
                case rel => exact ⟨j + 1, by omega, by go_num, BW⟩
                case measure => simp [intOf]; omega
          obtain rfl : j = 4 := by omega
          have c3 := Tx.MayHear_impl D nl.length cd nl s x said now wr N.out.nums HNL.out hn6
          rw [H3.out] at c3
          obtain ⟨⟨a0, a1⟩, _⟩ := Tx.blk2 M7.out
          go_wp2_with fail
          clear a0 a1
          refine c3.mono ?_
          rintro e w30 ⟨rfl, b⟩
          go_wp2
          go_ret
          exact ⟨rfl, K.out.trans (b.mono K.out.size)⟩
      have d0 : (kk != 0) = true := by simpa using hk0
      by_cases h3 : kk = 3
      · subst h3
        have c1 := Tx.SeenIn_impl B zs.length c zs s x wc P.out.nums HI.out HX.out hl7
        rw [decide_eq_true (hear_three HK.out)] at c1
        obtain ⟨⟨a0, a1⟩, _⟩ := Tx.blk2 M1.out
        go_wp2_with fail
        clear a0 a1
        refine c1.mono ?_
        rintro e w23 ⟨rfl, b⟩
        go_wp2
        go_ret
        exact ⟨rfl, K.out.trans (b.mono K.out.size)⟩
      · have d3 : (kk != 3) = true := by simpa using h3
        go_wp2
        go_ret
        exact ⟨rfl, K.out⟩

theorem own : ownKnob Try.prog.godebug = none := by kernel_rfl
theorem laidOut : laidOutB Try.prog = true := by kernel_rfl

set_option maxRecDepth 100000 in
theorem lifted (os : Os) (started : os.Started) (H : Type) (enc : TypeId × Value → H) :
    ReturnsInHanded {} Try.checked os 3 .any (Rows.fnMemorySpec.pre6 enc Try.prog Try.f3 Rows.fnMemoryRow.domain false) (Rows.fnMemorySpec.post enc Try.prog Try.f3 false true false false) := by
  refine returnsInHanded_of_change (C := Try.checked) own started (by kernel_rfl) Try.func3
    (ChangeSpec.witness6 (enc := enc) (C := Try.checked) false ⟨#[], #[.slice none 0 0], []⟩ 8 (by kernel_rfl) (by kernel_rfl) (by kernel_rfl) (by kernel_rfl)) ?_
  intro W base args ds gs before hval0 hW hcnd _
  have hval : ∀ (j : Nat) t v, Try.f3.params[j]? = some t → args[j]? = some v → Value.okWide Try.prog W .any base t v := hval0
  have hW' := hW
  obtain ⟨p, q, hA0, hV, rfl, hfz, hnd⟩ := hW
  have hA : DataW.TrodAll enc Try.prog W 0 (fun _ => true) true Try.f3.params.toList args.toList ds p := hA0
  rw [Try.params3] at hA hval
  obtain ⟨v0, vs0, d0, ds0, p0, q0, hargs, rfl, rfl, h0, r0⟩ := trodAll_cons hA
  obtain ⟨rfl, rfl, rfl⟩ := trodAll_nil r0
  obtain rfl : args = #[v0] := by cases args; simp_all
  obtain ⟨rfl, rfl⟩ := trodVars_none hV
  have k0 := h0
  have lt0 : ∀ x ∈ p0, x.block < W.heap.size := by obtain ⟨m, hm⟩ := k0; exact DataW.trod_lt m _ _ _ hm
  obtain ⟨a0, len0, cap0, rfl⟩ := okWide_slice Try.underlying22 (hval 0 22 v0 rfl rfl)
  have w0 : Tx.BytesAt W W.heap.size a0 len0 ∧ len0 ≤ maxLen := by
    obtain ⟨fuel, hf⟩ := h0
    rcases open_ints Try.underlying22 Try.underlying5 (by kernel_rfl) hf with ⟨hcs, _⟩ | ⟨x, l, c, zs, hcs, _, hl, hm, hz, _, hcell, hwz⟩
    · simp [Value.cells] at hcs
      obtain ⟨rfl, rfl, rfl⟩ := hcs
      exact ⟨fun h => absurd h (by omega), by unfold maxLen; omega⟩
    · simp [Value.cells] at hcs
      obtain ⟨rfl, rfl, rfl⟩ := hcs
      simp only [if_true] at hz
      exact ⟨Tx.bytesAt_of_ints (by omega) hcell fun n hn => bounds_u8 (hwz n hn), by omega⟩
  clear hA0 hval0
  refine (walk W a0 len0 cap0 w0.1 w0.2).mono fun e W' ⟨he, bel⟩ => ?_
  subst he
  exact ⟨_, rfl, _, _, _, [], _, [], hW', trodAll_mk1 (shut_bool Try.underlying4 _), (trodAll_cons_mk (Below.trod laidOut (by kernel_rfl) (of_decide_eq_true (by kernel_rfl)) k0 bel lt0) trodAll_mk0), rfl, bel.frame _, fun h => by cases h⟩

theorem over : Rows.fnMemoryRow.holds Try.pinned (OpenSpec.ofChange Rows.fnMemorySpec) :=
  OpenClaim.holds_of_wide 3 Try.f3 rfl rfl rfl rfl rfl rfl rfl ⟨rfl, rfl, rfl, rfl, rfl⟩ rfl rfl rfl rfl rfl (by kernel_rfl) Try.func3 (by kernel_rfl)
    (of_decide_eq_true (by kernel_rfl)) (by unfold Func.isWrapper; first | (rw [if_pos (by decide +kernel)]; kernel_rfl) | (rw [if_neg (by decide +kernel)]; exact ⟨rfl, rfl⟩))
    (fun os started H enc _ => lifted os started H enc)

end Go.Proofs.Ytdpdbidjbidmaaa.fnMemory

namespace Go.Proofs.Ytdpdbidjbidmaaa
theorem fnMemory_proved : Rows.FnMemorySaid := fnMemory.over
#print axioms fnMemory_proved
end Go.Proofs.Ytdpdbidjbidmaaa
