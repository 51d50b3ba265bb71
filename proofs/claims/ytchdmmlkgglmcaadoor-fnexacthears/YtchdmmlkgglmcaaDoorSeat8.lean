/-
  markSeat and heldSeat of a seat whose list a call made, or is nil; how long a log may become. Conditions: at most 1048576 words.
-/
import Derived.Test.YtchdmmlkgglmcaaDoorFillO
import Derived.Test.YtchdmmlkgglmcaaDoorHears
import Derived.Test.YtchdmmlkgglmcaaDoorSeat6
namespace Go.Proofs.YtchdmmlkgglmcaaDoor.Tx
open Go.RowKit

theorem LogOut.out {w : World} {base : Nat} {A : Option Addr} {n cap : Nat} {l : List WordV} (h : LogOut w base A n cap l) : OutE w base 69 A n cap l := h
theorem hearL_small (N : Nat) (s : SeatV) (l : List WordV) (b : BoxV) (hl : l.length ≤ N) (hN : 60 ≤ N) : (hearL s l b).length ≤ N := by
  have h1 : hearC s l.length b = 1 → l.length < 60 := fun h => by
    rw [hearC] at h
    repeat' split at h
    all_goals omega
  have h3 : hearC s l.length b = 3 → l.length < 60 := fun h => by
    rw [hearC] at h
    repeat' split at h
    all_goals first | omega | (rename_i h2; rw [Bool.and_eq_true, decide_eq_true_iff] at h2; exact h2.2)
  rw [hearL]
  split
  · split
    · rename_i h
      have := h1 h
      simp; omega
    · split
      · rename_i h
        have := h3 h
        simp; omega
      · exact hl
  · simp
theorem hearL_length (s : SeatV) (l : List WordV) (b : BoxV) (hl : l.length ≤ 1048576) : (hearL s l b).length ≤ 1048576 := hearL_small 1048576 s l b hl (by omega)
theorem markSeat_out (s : SeatV) (A : Option Addr) (n cap k base : Nat) (l : List WordV) (hk : k ≤ 4194304) (hn : n ≤ 1048576) (w : World) (h : OutE w base 69 A n cap l) :
    Calls Tryd.prog 25 #[s.val A n cap, .int .i64 (k : Int)] w fun e w' => e = .returned (.int .i64 ((k + n * 2 : Nat) : Int)) ∧ FillO w' A n (n * 2) (markF wordKs k) ∧ w.grownBy w' (blkA A) := by
  rcases h.form with ⟨rfl, rfl⟩ | ⟨g, rfl, hg, ht⟩
  · exact (markSeat_nil s none cap k w).mono fun e w' ⟨he, hb⟩ => ⟨he, .inl ⟨rfl, rfl⟩, grown_nil hb⟩
  · exact (markSeat_any s g n cap k (by omega) w hg ht).mono fun e w' ⟨he, hf, hb⟩ => ⟨he, .inr ⟨g, rfl, Nat.lt_of_lt_of_le hg hb.size, hf⟩, hb⟩
theorem heldSeat_out (s : SeatV) (A : Option Addr) (n cap k : Nat) (hk : k ≤ 4194304) (hn : n ≤ 1048576) (w : World) (h : FillO w A n (n * 2) (markF wordKs k)) :
    Calls Tryd.prog 26 #[s.val A n cap, .int .i64 (k : Int)] w fun e w' => e = .returned (.int .i64 ((k + n * 2 : Nat) : Int)) ∧ Below w.heap.size w w' := by
  rcases h with ⟨rfl, rfl⟩ | ⟨g, rfl, hg, hf⟩
  · exact heldSeat_nil s none cap k w
  · exact heldSeat_any s g n cap k (by omega) w hg hf

end Go.Proofs.YtchdmmlkgglmcaaDoor.Tx
