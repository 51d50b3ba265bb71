/-
  A region that draws its order, in which memory of the call's own is made (boxes of variables, callees' results) and written: one walk in the text's order serves every order. No conditions. Nothing of the program is named here.
-/
import Derived.WalkKit
import Derived.BigQuiet
import Derived.Deep.QuietTactic
import Derived.Lib.Hide
import Derived.Laws.Tables
import Derived.Laws.Rows
import Derived.Laws.AppendOwn
import Derived.Test.YtakhjdodljhfmaaLow
import Derived.Test.YtakhjdodljhfmaaRegionL
namespace Go.Proofs.Ytakhjdodljhfmaa.Tx
open Go Go.RowKit

/-- A class of worlds, how they may move on, and which blocks are the call's own. -/
structure Env where
  C : World → Prop
  T : World → World → Prop
  mine : Nat → Prop
  lim : Nat
  go : ∀ {w w'}, C w → T w w' → C w'
  new : ∀ {w} (o : Obj), C w → T w (w.alloc o)
  size : ∀ {w w'}, T w w' → w.heap.size ≤ w'.heap.size
  blk : ∀ {w w' g o}, C w → T w w' → mine g → w.heap[g]? = some o → w'.heap[g]? = some o
  lo : ∀ {w}, C w → lim ≤ w.heap.size
  own : ∀ {k}, lim ≤ k → mine k
  free : ∀ {w w' : World}, C w → w'.os = w.os → w'.tape = w.tape → w'.output = w.output → w.heap.size ≤ w'.heap.size → (∀ k, ¬ mine k → w'.heap[k]? = w.heap[k]?) → C w'
  some : ∃ w, C w
  /-- How a call may give up: by which panic, in which world. -/
  die : List PanicEntry → World → Prop := fun _ _ => False
/-- A world of the class. -/
structure In (E : Env) where
  w : World
  hc : E.C w
instance (E : Env) : Nonempty (In E) := let ⟨w, h⟩ := E.some; ⟨⟨w, h⟩⟩

/-- Facts that stay while the world moves on. -/
def Stays (E : Env) (F : World → Prop) : Prop := ∀ w w', E.C w → F w → E.T w w' → F w'
theorem stays_and {E : Env} {F R : World → Prop} (h : Stays E F) (k : Stays E R) : Stays E (fun w => F w ∧ R w) := fun w w' hc hw b => ⟨h w w' hc hw.1 b, k w w' hc hw.2 b⟩
theorem stays_true {E : Env} : Stays E (fun _ => True) := fun _ _ _ _ _ => trivial
theorem stays_blk {E : Env} {g : Nat} (hg : E.mine g) (o : Obj) : Stays E (fun w => w.heap[g]? = Option.some o) := fun _ _ hc h b => E.blk hc b hg h
theorem fresh_above (b : Nat) (G : List Nat) : ∃ g, b ≤ g ∧ g ∉ G := by
  refine ⟨b + (G.foldr max 0) + 1, by omega, fun h => ?_⟩
  have key : ∀ (l : List Nat) (x : Nat), x ∈ l → x ≤ l.foldr max 0 := by
    intro l
    induction l with
    | nil => intro x hx; cases hx
    | cons y r ih =>
      intro x hx
      rcases List.mem_cons.1 hx with rfl | hx
      · exact Nat.le_max_left _ _
      · exact Nat.le_trans (ih x hx) (Nat.le_max_right _ _)
  have := key G _ h
  omega

/-- The class as the quiet walk wants it. -/
def InC (E : Env) : World → Prop := fun w' => ∃ n : In E, w' = n.w
theorem inC {E : Env} {w : World} (h : E.C w) : InC E w := ⟨⟨w, h⟩, rfl⟩

theorem fresh_mine (E : Env) (G : List Nat) : ∃ g, E.lim ≤ g ∧ g ∉ G := fresh_above E.lim G

/-- No call of a Go function. -/
def plainOp (o : Oper) : Bool := match o.op with
  | .call c => match c.callee with
    | .builtin .print => false
    | .builtin .println => false
    | .builtin _ => true
    | _ => false
  | .nilCheck _ => false
  | .recv _ _ _ => false
  | _ => true

/-- Whatever it comes to, it enters no function. -/
def NoEnter (s : Sem Next) : Prop := ∀ (P : Program) (w w' : World) (f : FuncId) (args : Array Value), s.run P w ≠ .ok (.enter f args) w'
theorem noEnter_then {α : Type} {s : Sem α} {k : α → Sem Next} (h : ∀ x, NoEnter (k x)) : NoEnter (s >>= k) := fun P w w' f args e => by
  rw [Sem.run_bind] at e
  cases hs : s.run P w with
  | ok x w1 => rw [hs, Result.andThen_ok] at e; exact h x P w1 w' f args e
  | halt x w1 => rw [hs, Result.andThen_halt] at e; cases e
theorem noEnter_value (v : Value) : NoEnter (pure (.value v)) := fun P w w' f args e => by cases e
theorem noEnter_pure {n : Next} (h : ∀ f args, n ≠ .enter f args) : NoEnter (pure n) := fun P w w' f args e => by
  rw [Sem.run_pure] at e
  injection e with e1 _
  exact h f args e1
theorem builtin_enter (b : Builtin) (ts : Array TypeId) (t : TypeId) (cs : Array Bool) (args : Array Value) (hp : b ≠ .print ∧ b ≠ .println) : NoEnter (builtin b ts t cs args) := by
  cases b <;> simp only [builtin]
  case print => exact absurd rfl hp.1
  case println => exact absurd rfl hp.2
  all_goals (first | exact noEnter_then (fun _ => noEnter_value _) | exact noEnter_pure (fun _ _ => by simp) | exact (fun P w w' f args e => by cases e))
theorem plain_enter {o : Oper} (h : plainOp o = true) (ρ : Operand → Value) : NoEnter (execOp ρ o) := by
  obtain ⟨dst, op, type, pos, after, guard⟩ := o
  cases op <;> simp only [execOp]
  case nilCheck => simp [plainOp] at h
  case recv => simp [plainOp] at h
  case call c =>
    obtain ⟨callee, args, argTypes⟩ := c
    cases callee with
    | builtin b =>
      have hb : b ≠ .print ∧ b ≠ .println := by constructor <;> (rintro rfl; simp [plainOp] at h)
      intro P w w' f args' e
      rw [Sem.run_bind] at e
      simp only [resolve, Sem.run_pure, Result.andThen_ok, invoke] at e
      exact builtin_enter b _ _ _ _ hb P w w' f args' e
    | value f => simp [plainOp] at h
    | invoke r m => simp [plainOp] at h
  all_goals (first | exact noEnter_value _ | exact noEnter_then (fun _ => noEnter_value _) | exact noEnter_pure (fun _ _ => by simp) | exact noEnter_then (fun _ => noEnter_pure (fun _ _ => by simp)))

/-- What goes on behind an operation: blocks of the call's own, facts, the frame. -/
abbrev Cont := List Nat → (World → Prop) → Act → Prop

section
variable {P : Program} {ops : Array Oper} {ks : Array Nat} {md : Region.Mode} {E : Env} {Q : Act → World → Prop}

/-- Behind an operation all blocks are as they were but some that lay or are known. -/
def frameO (P : Program) (E : Env) (o : Oper) (G : List Nat) (F : World → Prop) (a : Act) : Prop :=
  ∃ S : List Nat, (∀ k ∈ S, k < E.lim ∨ k ∈ G) ∧ ∀ w, E.C w → F w → ∀ nx w', (execOp a.eval o).run P w = .ok nx w' → ∀ k, k < w.heap.size → k ∉ S → w'.heap[k]? = w.heap[k]?
/-- It only reads, as the facts tell, and they stay. -/
def readO (P : Program) (E : Env) (o : Oper) (F : World → Prop) (a : Act) {α : Type} (val : α → Value) (F' : α → World → Prop) : Prop :=
  Stays E F ∧ ∀ x, (∀ w, E.C w → F w → (execOp a.eval o).run P w = .ok (.value (val x)) w) ∧ ∀ w, F' x w ↔ F w
/-- One operation: 0: it only reads what lay; 1: a call; 2: a new block; 3: a store; 4: a store or an append that is known to leave all but some blocks; 5: it reads what is the call's own. -/
def stepO (P : Program) (E : Env) (κ : Nat) (o : Oper) (K : Cont) (G : List Nat) (F : World → Prop) (a : Act) : Prop :=
  match κ with
  | 0 => plainOp o = true ∧ ∃ v, (∀ w, E.C w → o.quietAt P a (InC E) w v) ∧ K G F (a.put o.dst v)
  | 1 => ∃ (f : FuncId) (args : Array Value), (∀ w, E.C w → (execOp a.eval o).run P w = .ok (.enter f args) w) ∧
      ∃ (α : Type) (val : α → Value) (own : α → List Nat) (R : α → World → Prop), (∀ x, Stays E (R x)) ∧ (∀ G' : List Nat, ∃ x, ∀ g ∈ own x, E.lim ≤ g ∧ g ∉ G') ∧
        (∀ w, E.C w → F w → Calls P f args w fun e w' => (∃ x, e = .returned (val x) ∧ R x w' ∧ E.T w w' ∧ ∀ g ∈ own x, w.heap.size ≤ g ∧ g < w'.heap.size) ∨ ∃ ch, e = .panicked ch ∧ E.die ch w') ∧
        ∀ x, (∀ g ∈ own x, E.lim ≤ g ∧ g ∉ G) → K (own x ++ G) (fun w => F w ∧ R x w) (a.put o.dst (val x))
  | 2 => ∃ (obj : Obj) (val : Nat → Value), (∀ w, (execOp a.eval o).run P w = .ok (.value (val w.heap.size)) (w.alloc obj)) ∧
      ∀ g, E.lim ≤ g → g ∉ G → K (g :: G) (fun w => F w ∧ w.heap[g]? = some obj) (a.put o.dst (val g))
  | m + 3 => ∃ (α : Type) (val : α → Value) (F' : α → World → Prop), Nonempty α ∧ (∀ x, Stays E (F' x)) ∧
      (∀ w, E.C w → F w → ∃ x w', ((execOp a.eval o).run P w = .ok (.value (val x)) w' ∨ ((execOp a.eval o).run P w = .ok .skip w' ∧ val x = undef)) ∧ E.C w' ∧ w.heap.size ≤ w'.heap.size ∧ F' x w') ∧ (m = 1 → frameO P E o G F a) ∧ (m = 2 → readO P E o F a val F') ∧
      ∀ x, K G (F' x) (a.put o.dst (val x))

/-- The same from a frame that looks alike, with like facts. -/
theorem stepO_turn {κ : Nat} {o : Oper} {K K' : Cont} {G G' : List Nat} {F F' : World → Prop} {a a' : Act} (hG : ∀ g, g ∈ G ↔ g ∈ G') (hF : ∀ w, F w ↔ F' w) (he : execOp a'.eval o = execOp a.eval o)
    (hK : ∀ G1 G1' F1 F1' v, (∀ g, g ∈ G1 ↔ g ∈ G1') → (∀ w, F1 w ↔ F1' w) → K G1 F1 (a.put o.dst v) → K' G1' F1' (a'.put o.dst v)) (h : stepO P E κ o K G F a) : stepO P E κ o K' G' F' a' := by
  match κ, h with
  | 0, h =>
    obtain ⟨hp, v, hq, hk⟩ := h
    exact ⟨hp, v, fun w hw => by have := hq w hw; unfold Oper.quietAt at *; rwa [he], hK _ _ _ _ v hG hF hk⟩
  | 1, h =>
    obtain ⟨f, args, hen, α, val, own, R, hR, hex, hc, hk⟩ := h
    exact ⟨f, args, fun w hw => by rw [he]; exact hen w hw, α, val, own, R, hR, hex, fun w hw hf => hc w hw ((hF w).2 hf), fun x hx =>
      hK _ _ _ _ _ (fun g => by simp only [List.mem_append, hG]) (fun w => by rw [hF]) (hk x fun g hg => ⟨(hx g hg).1, fun h => (hx g hg).2 ((hG g).1 h)⟩)⟩
  | 2, h =>
    obtain ⟨obj, val, hr, hk⟩ := h
    exact ⟨obj, val, fun w => by rw [he]; exact hr w, fun g hg hn => hK _ _ _ _ _ (fun g => by simp only [List.mem_cons, hG]) (fun w => by rw [hF]) (hk g hg fun h => hn ((hG g).1 h))⟩
  | n + 3, h =>
    obtain ⟨α, val, F1, hne, hs, hr, hfr, hrd, hk⟩ := h
    exact ⟨α, val, F1, hne, hs, fun w hw hf => by rw [he]; exact hr w hw ((hF w).2 hf), fun hm => by
      obtain ⟨S, s1, s2⟩ := hfr hm
      exact ⟨S, fun k hk => (s1 k hk).imp_right (hG k).1, fun w hw hf => by rw [he]; exact s2 w hw ((hF w).2 hf)⟩, fun hm => by
      obtain ⟨r1, r2⟩ := hrd hm
      exact ⟨fun w w' hc hf ht => (hF w').1 (r1 w w' hc ((hF w).2 hf) ht), fun x => ⟨fun w hw hf => by rw [he]; exact (r2 x).1 w hw ((hF w).2 hf), fun w => ((r2 x).2 w).trans (hF w)⟩⟩, fun x => hK _ _ _ _ _ hG (fun _ => Iff.rfl) (hk x)⟩

/-- There is a way on. -/
theorem stepO_some {κ : Nat} {o : Oper} {K : Cont} {G : List Nat} {F : World → Prop} {a : Act} (h : stepO P E κ o K G F a) : ∃ G' F' a', K G' F' a' := by
  match κ, h with
  | 0, h => obtain ⟨_, v, _, hk⟩ := h; exact ⟨_, _, _, hk⟩
  | 1, h => obtain ⟨_, _, _, _, _, _, _, _, hex, _, hk⟩ := h; obtain ⟨x, hx⟩ := hex G; exact ⟨_, _, _, hk x hx⟩
  | 2, h => obtain ⟨_, _, _, hk⟩ := h; obtain ⟨g, h1, h2⟩ := fresh_mine E G; exact ⟨_, _, _, hk g h1 h2⟩
  | n + 3, h => obtain ⟨_, _, _, ⟨x⟩, _, _, _, _, hk⟩ := h; exact ⟨_, _, _, hk x⟩

/-- Operation number i. -/
def oOp (P : Program) (ops : Array Oper) (ks : Array Nat) (E : Env) (i : Nat) (K : Cont) (G : List Nat) (F : World → Prop) (a : Act) : Prop :=
  match ops[i]? with
  | none => K G F a
  | some o => if Region.wanted o (yielded ops a.tmps) = true then stepO P E (ks.getD i 0) o K G F a else K G F (a.put o.dst undef)
theorem oOp_at {i : Nat} {o : Oper} (h : ops[i]? = some o) (K : Cont) (G : List Nat) (F : World → Prop) (a : Act) : oOp P ops ks E i K G F a = if Region.wanted o (yielded ops a.tmps) = true then stepO P E (ks.getD i 0) o K G F a else K G F (a.put o.dst undef) := by
  simp only [oOp, h]

/-- Closed under like facts. -/
def Closed (K : Cont) : Prop := ∀ G G' F F' a, (∀ g, g ∈ G ↔ g ∈ G') → (∀ w, F w ↔ F' w) → K G F a → K G' F' a
theorem oOp_closed {i : Nat} {K : Cont} (hK : Closed K) : Closed (oOp P ops ks E i K) := fun G G' F F' a hG hF h => by
  unfold oOp at *
  split
  · rename_i ho; simp only [ho] at h; exact hK _ _ _ _ _ hG hF h
  · rename_i o ho
    simp only [ho] at h
    split
    · rename_i hw
      rw [if_pos hw] at h
      exact stepO_turn hG hF rfl (fun _ _ _ _ _ g1 f1 k => hK _ _ _ _ _ g1 f1 k) h
    · rename_i hw; rw [if_neg hw] at h; exact hK _ _ _ _ _ hG hF h
theorem oOp_mono {i : Nat} {K K' : Cont} (hK : ∀ G F a, K G F a → K' G F a) (hc : Closed K) {G : List Nat} {F : World → Prop} {a : Act} (h : oOp P ops ks E i K G F a) : oOp P ops ks E i K' G F a := by
  unfold oOp at *
  split
  · rename_i ho; simp only [ho] at h; exact hK _ _ _ h
  · rename_i o ho
    simp only [ho] at h
    split
    · rename_i hw
      rw [if_pos hw] at h
      exact stepO_turn (fun _ => Iff.rfl) (fun _ => Iff.rfl) rfl (fun _ _ _ _ _ g1 f1 k => hK _ _ _ (hc _ _ _ _ _ g1 f1 k)) h
    · rename_i hw; rw [if_neg hw] at h; exact hK _ _ _ h
theorem oOp_some {i : Nat} {K : Cont} {G : List Nat} {F : World → Prop} {a : Act} (h : oOp P ops ks E i K G F a) : ∃ G' F' a', K G' F' a' := by
  unfold oOp at h
  split at h
  · exact ⟨_, _, _, h⟩
  · split at h
    · exact stepO_some h
    · exact ⟨_, _, _, h⟩

/-- May an operation of the first kind be taken ahead of one of the second? -/
def kindOk : Nat → Nat → Bool
  | 0, _ => true
  | 1, 0 => true
  | 1, 2 => true
  | 2, 0 => true
  | 2, 2 => true
  | _ + 3, 0 => true
  | 4, 2 => true
  | 5, 1 => true
  | 5, 2 => true
  | _, _ => false
theorem kind32 : ∀ n, kindOk (n + 3) 2 = true → n = 1 ∨ n = 2
  | 0, h => by simp [kindOk] at h
  | 1, _ => .inl rfl
  | 2, _ => .inr rfl
  | n + 3, h => by simp [kindOk] at h
theorem kind31 : ∀ n, kindOk (n + 3) 1 = true → n = 2
  | 0, h => by simp [kindOk] at h
  | 1, h => by simp [kindOk] at h
  | 2, _ => rfl
  | n + 3, h => by simp [kindOk] at h
theorem kind33 : ∀ n m, kindOk (n + 3) (m + 3) = false
  | 0, _ => rfl
  | 1, _ => rfl
  | 2, _ => rfl
  | n + 3, _ => by simp [kindOk]

theorem quiet_one {o : Oper} {a : Act} {C : World → Prop} {w : World} {v v' : Value} (hp : plainOp o = true) (h : o.quietAt P a C w v) (h' : o.quietAt P a C w v') : v = v' := by
  unfold Oper.quietAt at *
  have hn := plain_enter hp a.eval P w
  generalize (execOp a.eval o).run P w = r at *
  cases r with
  | ok n w' =>
    cases n <;> simp only [Oper.quietUpon] at h h'
    case value u => exact h.2.symm.trans h'.2
    case skip => exact h.2.trans h'.2.symm
    case enter f args => exact absurd rfl (hn w' f args)
  | halt x w' => simp only [Oper.quietUpon] at h

theorem alloc_one {o : Oper} {a : Act} {x y : Obj} {f f' : Nat → Value} (h : ∀ w, (execOp a.eval o).run P w = .ok (.value (f w.heap.size)) (w.alloc x)) (h' : ∀ w, (execOp a.eval o).run P w = .ok (.value (f' w.heap.size)) (w.alloc y)) (W : World) : x = y ∧ f = f' := by
  have key : ∀ w : World, x = y ∧ f w.heap.size = f' w.heap.size := fun w => by
    have e := h' w
    rw [h w] at e
    injection e with e1 e2
    injection e1 with e1
    have e3 := heap1 w x
    rw [e2, heap1 w y] at e3
    exact ⟨(Option.some.inj e3).symm, e1⟩
  refine ⟨(key W).1, funext fun g => ?_⟩
  have := (key { W with heap := Array.replicate g (.cells #[] 0) }).2
  simpa using this

/-- The first may be taken ahead of the second. -/
theorem swapO {i j : Nat} {oi oj : Oper} (hi : ops[i]? = some oi) (hj : ops[j]? = some oj) (hap : oi.apart ops oj = true) (hsi : ∀ cs b, oi.op ≠ .select cs b) (hsj : ∀ cs b, oj.op ≠ .select cs b)
    (hk : kindOk (ks.getD i 0) (ks.getD j 0) = true) {K : Cont} (hK : Closed K) {G : List Nat} {F : World → Prop} {a : Act} (h : oOp P ops ks E i (oOp P ops ks E j K) G F a) : oOp P ops ks E j (oOp P ops ks E i K) G F a := by
  obtain ⟨W, hW⟩ := E.some
  obtain ⟨h1, h2, h3⟩ := Oper.apart_spec hap
  have wj : ∀ v, Region.wanted oj (yielded ops (a.put oi.dst v).tmps) = Region.wanted oj (yielded ops a.tmps) := fun v => wanted_put oj a oi.dst v h1
  have wi : ∀ u, Region.wanted oi (yielded ops (a.put oj.dst u).tmps) = Region.wanted oi (yielded ops a.tmps) := fun u => wanted_put oi a oj.dst u h3
  have ej : ∀ v, execOp (a.put oi.dst v).eval oj = execOp a.eval oj := fun v => execOp_put oj hsj a oi.dst v h1
  have ei : ∀ u, execOp (a.put oj.dst u).eval oi = execOp a.eval oi := fun u => execOp_put oi hsi a oj.dst u h3
  have comm : ∀ v u, (a.put oi.dst v).put oj.dst u = (a.put oj.dst u).put oi.dst v := fun v u => Act.put_comm a v u h2
  have const : ∀ v F0, (∀ u G1 F1, K G1 F1 ((a.put oj.dst u).put oi.dst v) → oOp P ops ks E i K G1 F1 (a.put oj.dst u)) → oOp P ops ks E j K G F0 (a.put oi.dst v) → oOp P ops ks E j (oOp P ops ks E i K) G F0 a := by
    intro v F0 hv hh
    rw [oOp_at hj, wj] at hh
    rw [oOp_at hj]
    split
    · rename_i hw
      rw [if_pos hw] at hh
      exact stepO_turn (fun _ => Iff.rfl) (fun _ => Iff.rfl) (ej v).symm (fun _ _ _ _ u g1 f1 k => hv u _ _ (hK _ _ _ _ _ g1 f1 (by rw [← comm]; exact k))) hh
    · rename_i hw
      rw [if_neg hw] at hh
      exact hv _ _ _ (by rw [← comm]; exact hh)
  rw [oOp_at hi] at h
  by_cases hwi : Region.wanted oi (yielded ops a.tmps) = true
  · rw [if_pos hwi] at h
    have oi_at : ∀ u G1 F1, stepO P E (ks.getD i 0) oi K G1 F1 (a.put oj.dst u) → oOp P ops ks E i K G1 F1 (a.put oj.dst u) := fun u G1 F1 hh => by rw [oOp_at hi, wi, if_pos hwi]; exact hh
    generalize ks.getD i 0 = κi at *
    match κi, h with
    | 0, h =>
      obtain ⟨hp, v, hq, hh⟩ := h
      exact const v F (fun u G1 F1 k => oi_at u G1 F1 ⟨hp, v, fun w hw => by have := hq w hw; unfold Oper.quietAt at *; rwa [ei], k⟩) hh
    | 1, h =>
      obtain ⟨f, args, hen, α, val, own, R, hR, hex, hc, hn⟩ := h
      have back : ∀ u G1 (F1 : World → Prop), (∀ w, F1 w → F w) → (∀ x, (∀ g ∈ own x, E.lim ≤ g ∧ g ∉ G1) → K (own x ++ G1) (fun w => F1 w ∧ R x w) ((a.put oj.dst u).put oi.dst (val x))) → oOp P ops ks E i K G1 F1 (a.put oj.dst u) := fun u G1 F1 hF1 hh =>
        oi_at u G1 F1 ⟨f, args, fun w hw => by rw [ei]; exact hen w hw, α, val, own, R, hR, hex, fun w hw hf => hc w hw (hF1 w hf), hh⟩
      rw [oOp_at hj]
      by_cases hwj : Region.wanted oj (yielded ops a.tmps) = true
      · rw [if_pos hwj]
        have hn' : ∀ x, (∀ g ∈ own x, E.lim ≤ g ∧ g ∉ G) → stepO P E (ks.getD j 0) oj K (own x ++ G) (fun w => F w ∧ R x w) (a.put oi.dst (val x)) := fun x hx => by
          have := hn x hx
          rwa [oOp_at hj, wj, if_pos hwj] at this
        obtain ⟨x0, hx0⟩ := hex G
        generalize ks.getD j 0 = κj at *
        match κj, hk, hn' with
        | 0, _, hn' =>
          obtain ⟨hp, v, hq, _⟩ := hn' x0 hx0
          have hqa : ∀ w, E.C w → oj.quietAt P a (InC E) w v := fun w hw => by have := hq w hw; unfold Oper.quietAt at *; rwa [ej] at this
          refine ⟨hp, v, hqa, back v G F (fun _ h => h) fun x hx => ?_⟩
          obtain ⟨_, v', hq', hh⟩ := hn' x hx
          have hqa' : oj.quietAt P a (InC E) W v' := by have := hq' W hW; unfold Oper.quietAt at *; rwa [ej] at this
          rw [quiet_one hp (hqa W hW) hqa', ← comm]
          exact hh
        | 2, _, hn' =>
          obtain ⟨obj, vf, hr, _⟩ := hn' x0 hx0
          have hra : ∀ w, (execOp a.eval oj).run P w = .ok (.value (vf w.heap.size)) (w.alloc obj) := fun w => by rw [← ej]; exact hr w
          refine ⟨obj, vf, hra, fun g hg hgn => back _ (g :: G) (fun w => F w ∧ w.heap[g]? = some obj) (fun _ h => h.1) fun x hx => ?_⟩
          obtain ⟨obj', vf', hr', hh⟩ := hn' x fun g' hg' => ⟨(hx g' hg').1, fun h => (hx g' hg').2 (List.mem_cons_of_mem _ h)⟩
          obtain ⟨rfl, rfl⟩ := alloc_one hra (fun w => by rw [← ej (val x)]; exact hr' w) W
          rw [← comm]
          refine hK _ _ _ _ _ ?_ ?_ (hh g hg fun h => ?_)
          · intro g'; simp only [List.mem_cons, List.mem_append]; constructor <;> (intro h; rcases h with h | h | h <;> simp [h])
          · intro w; constructor
            · rintro ⟨⟨h1, h2⟩, h3⟩; exact ⟨⟨h1, h3⟩, h2⟩
            · rintro ⟨⟨h1, h3⟩, h2⟩; exact ⟨⟨h1, h2⟩, h3⟩
          · rcases List.mem_append.1 h with h | h
            · exact (hx g h).2 (List.mem_cons_self)
            · exact hgn h
      · rw [if_neg hwj]
        refine back undef G F (fun _ h => h) fun x hx => ?_
        have := hn x hx
        rw [oOp_at hj, wj, if_neg hwj] at this
        rw [← comm]
        exact this
    | 2, h =>
      obtain ⟨obj, val, hr, hn⟩ := h
      have back : ∀ u G1 (F1 : World → Prop), (∀ g, E.lim ≤ g → g ∉ G1 → K (g :: G1) (fun w => F1 w ∧ w.heap[g]? = some obj) ((a.put oj.dst u).put oi.dst (val g))) → oOp P ops ks E i K G1 F1 (a.put oj.dst u) := fun u G1 F1 hh =>
        oi_at u G1 F1 ⟨obj, val, fun w => by rw [ei]; exact hr w, hh⟩
      rw [oOp_at hj]
      by_cases hwj : Region.wanted oj (yielded ops a.tmps) = true
      · rw [if_pos hwj]
        have hn' : ∀ g, E.lim ≤ g → g ∉ G → stepO P E (ks.getD j 0) oj K (g :: G) (fun w => F w ∧ w.heap[g]? = some obj) (a.put oi.dst (val g)) := fun g h1 h2 => by
          have := hn g h1 h2
          rwa [oOp_at hj, wj, if_pos hwj] at this
        obtain ⟨g0, hg0, hg0n⟩ := fresh_mine E G
        generalize ks.getD j 0 = κj at *
        match κj, hk, hn' with
        | 0, _, hn' =>
          obtain ⟨hp, v, hq, _⟩ := hn' g0 hg0 hg0n
          have hqa : ∀ w, E.C w → oj.quietAt P a (InC E) w v := fun w hw => by have := hq w hw; unfold Oper.quietAt at *; rwa [ej] at this
          refine ⟨hp, v, hqa, back v G F fun g hg hgn => ?_⟩
          obtain ⟨_, v', hq', hh⟩ := hn' g hg hgn
          have hqa' : oj.quietAt P a (InC E) W v' := by have := hq' W hW; unfold Oper.quietAt at *; rwa [ej] at this
          rw [quiet_one hp (hqa W hW) hqa', ← comm]
          exact hh
        | 2, _, hn' =>
          obtain ⟨obj1, vf, hr1, _⟩ := hn' g0 hg0 hg0n
          have hra : ∀ w, (execOp a.eval oj).run P w = .ok (.value (vf w.heap.size)) (w.alloc obj1) := fun w => by rw [← ej]; exact hr1 w
          refine ⟨obj1, vf, hra, fun g1 hg1 hg1n => back _ (g1 :: G) (fun w => F w ∧ w.heap[g1]? = some obj1) fun g hg hgn => ?_⟩
          obtain ⟨obj', vf', hr', hh⟩ := hn' g hg fun h => hgn (List.mem_cons_of_mem _ h)
          obtain ⟨rfl, rfl⟩ := alloc_one hra (fun w => by rw [← ej (val g)]; exact hr' w) W
          rw [← comm]
          refine hK _ _ _ _ _ ?_ ?_ (hh g1 hg1 fun h => ?_)
          · intro g'; simp only [List.mem_cons]; constructor <;> (intro h; rcases h with h | h | h <;> simp [h])
          · intro w; constructor
            · rintro ⟨⟨h1, h2⟩, h3⟩; exact ⟨⟨h1, h3⟩, h2⟩
            · rintro ⟨⟨h1, h3⟩, h2⟩; exact ⟨⟨h1, h2⟩, h3⟩
          · rcases List.mem_cons.1 h with h | h
            · exact hgn (by rw [h]; exact List.mem_cons_self)
            · exact hg1n h
      · rw [if_neg hwj]
        refine back undef G F fun g hg hgn => ?_
        have := hn g hg hgn
        rw [oOp_at hj, wj, if_neg hwj] at this
        rw [← comm]
        exact this
    | n + 3, h =>
      obtain ⟨α, val, F1, hne, hs, hr, hfr, hrd, hn⟩ := h
      rw [oOp_at hj]
      have back : ∀ u, (∀ x, K G (F1 x) ((a.put oj.dst u).put oi.dst (val x))) → oOp P ops ks E i K G F (a.put oj.dst u) := fun u hh =>
        oi_at u G F ⟨α, val, F1, hne, hs, fun w hw hf => by rw [ei]; exact hr w hw hf, fun hm => by
          obtain ⟨S, s1, s2⟩ := hfr hm
          exact ⟨S, s1, fun w hw hf => by rw [ei]; exact s2 w hw hf⟩, fun hm => by
          obtain ⟨r1, r2⟩ := hrd hm
          exact ⟨r1, fun x => ⟨fun w hw hf => by rw [ei]; exact (r2 x).1 w hw hf, (r2 x).2⟩⟩, hh⟩
      -- what only reads is read so behind what makes facts and worlds stay
      have read : ∀ u G1 (F2 : World → Prop) x, (n = 2) → Stays E F2 → (∀ w, F2 w → F w) → K G1 F2 ((a.put oj.dst u).put oi.dst (val x)) → stepO P E (n + 3) oi K G1 F2 (a.put oj.dst u) := fun u G1 F2 x hm hS2 hF2 hh => by
        obtain ⟨r1, r2⟩ := hrd hm
        have hrun : ∀ w, E.C w → F2 w → (execOp (a.put oj.dst u).eval oi).run P w = .ok (.value (val x)) w := fun w hw hf => by rw [ei]; exact (r2 x).1 w hw (hF2 w hf)
        exact ⟨Unit, fun _ => val x, fun _ => F2, ⟨()⟩, fun _ => hS2, fun w hw hf => ⟨(), w, .inl (hrun w hw hf), hw, Nat.le_refl _, hf⟩, fun h => absurd h (by omega), fun _ => ⟨hS2, fun _ => ⟨hrun, fun _ => Iff.rfl⟩⟩, fun _ => hh⟩
      by_cases hwj : Region.wanted oj (yielded ops a.tmps) = true
      · rw [if_pos hwj]
        have hn' : ∀ x, stepO P E (ks.getD j 0) oj K G (F1 x) (a.put oi.dst (val x)) := fun x => by
          have := hn x
          rwa [oOp_at hj, wj, if_pos hwj] at this
        obtain ⟨x0⟩ := hne
        generalize ks.getD j 0 = κj at *
        match κj, hk, hn' with
        | 1, hk1, hn' =>
          have hm := kind31 n hk1
          obtain ⟨r1, r2⟩ := hrd hm
          obtain ⟨f, args, hen, β, val1, own, R, hR, hex, hc, hk'⟩ := hn' x0
          refine ⟨f, args, fun w hw => by rw [← ej]; exact hen w hw, β, val1, own, R, hR, hex, fun w hw hf => hc w hw (((r2 x0).2 w).2 hf), fun y hy => oi_at _ _ _ (read _ _ _ x0 hm (stays_and r1 (hR y)) (fun w h => h.1) ?_)⟩
          rw [← comm]
          exact hK _ _ _ _ _ (fun _ => Iff.rfl) (fun w => by rw [(r2 x0).2 w]) (hk' y hy)
        | m + 3, hk3, _ => rw [kind33] at hk3; cases hk3
        | 2, hk2, hn' =>
          rcases kind32 n hk2 with rfl | hm
          case inr =>
            obtain ⟨r1, r2⟩ := hrd hm
            obtain ⟨obj, vf, hr2, hk'⟩ := hn' x0
            refine ⟨obj, vf, fun w => by rw [← ej]; exact hr2 w, fun g hg hgn => oi_at _ _ _ (read _ _ _ x0 hm (stays_and r1 (stays_blk (E.own hg) _)) (fun w h => h.1) ?_)⟩
            rw [← comm]
            exact hK _ _ _ _ _ (fun _ => Iff.rfl) (fun w => by rw [(r2 x0).2 w]) (hk' g hg hgn)
          obtain ⟨S, s1, s2⟩ := hfr rfl
          obtain ⟨obj, vf, hr2, _⟩ := hn' x0
          have hra : ∀ w, (execOp a.eval oj).run P w = .ok (.value (vf w.heap.size)) (w.alloc obj) := fun w => by rw [← ej]; exact hr2 w
          refine ⟨obj, vf, hra, fun g hg hgn => ?_⟩
          have hgS : g ∉ S := fun h => (s1 g h).elim (fun h => by omega) hgn
          have keep : ∀ w, E.C w → (F w ∧ w.heap[g]? = some obj) → ∀ nx w', (execOp a.eval oi).run P w = .ok nx w' → w'.heap[g]? = some obj := fun w hw hf nx w' e => (s2 w hw hf.1 nx w' e g (Array.getElem?_eq_some_iff.1 hf.2).1 hgS).trans hf.2
          refine oi_at _ (g :: G) _ ⟨α, val, fun x w => F1 x w ∧ w.heap[g]? = some obj, ⟨x0⟩, fun x => stays_and (hs x) (stays_blk (E.own hg) _), fun w hw hf => ?_, fun _ => ⟨S, fun k hk => (s1 k hk).imp_right (List.mem_cons_of_mem _), fun w hw hf => by rw [ei]; exact s2 w hw hf.1⟩, fun h => absurd h (by decide), fun x => ?_⟩
          · obtain ⟨x, w', hrun, hcw, hsz, hF1⟩ := hr w hw hf.1
            refine ⟨x, w', by rw [ei]; exact hrun, hcw, hsz, hF1, ?_⟩
            rcases hrun with hrun | ⟨hrun, _⟩
            · exact keep w hw hf _ _ hrun
            · exact keep w hw hf _ _ hrun
          · obtain ⟨obj', vf', hr', hh⟩ := hn' x
            obtain ⟨rfl, rfl⟩ := alloc_one hra (fun w => by rw [← ej (val x)]; exact hr' w) W
            rw [← comm]
            exact hh g hg hgn
        | 0, _, hn' =>
          obtain ⟨hp, v, hq, _⟩ := hn' x0
          have hqa : ∀ w, E.C w → oj.quietAt P a (InC E) w v := fun w hw => by have := hq w hw; unfold Oper.quietAt at *; rwa [ej] at this
          refine ⟨hp, v, hqa, back v fun x => ?_⟩
          obtain ⟨_, v', hq', hh⟩ := hn' x
          have hqa' : oj.quietAt P a (InC E) W v' := by have := hq' W hW; unfold Oper.quietAt at *; rwa [ej] at this
          rw [quiet_one hp (hqa W hW) hqa', ← comm]
          exact hh
      · rw [if_neg hwj]
        refine back undef fun x => ?_
        have := hn x
        rw [oOp_at hj, wj, if_neg hwj] at this
        rw [← comm]
        exact this
  · rw [if_neg hwi] at h
    exact const undef F (fun u G1 F1 k => by rw [oOp_at hi, wi, if_neg hwi]; exact k) h

/-- Whatever order is picked from here on. -/
def wpAnyO (P : Program) (md : Region.Mode) (ops : Array Oper) (ks : Array Nat) (E : Env) (Q : Act → World → Prop) : Nat → Array Bool → Cont
  | 0, listed, _, F, a => Region.ready md ops listed = [] ∧ ∀ w, E.C w → F w → Q a w
  | fuel + 1, listed, G, F, a => (Region.ready md ops listed = [] → ∀ w, E.C w → F w → Q a w) ∧ ∀ i ∈ Region.ready md ops listed, oOp P ops ks E i (wpAnyO P md ops ks E Q fuel (listed.setIfInBounds i true)) G F a

theorem wpAnyO_closed : ∀ (fuel : Nat) (listed : Array Bool), Closed (wpAnyO P md ops ks E Q fuel listed)
  | 0, _ => fun _ _ _ _ _ _ hF h => ⟨h.1, fun w hw hf => h.2 w hw ((hF w).2 hf)⟩
  | fuel + 1, _ => fun _ _ _ _ _ hG hF h => ⟨fun h0 w hw hf => h.1 h0 w hw ((hF w).2 hf), fun i hi => oOp_closed (wpAnyO_closed fuel _) _ _ _ _ _ hG hF (h.2 i hi)⟩

/-- Does operation j wait for operation i: by an edge of its own, or by a chain? -/
def waitsFor (md : Region.Mode) (ops : Array Oper) : Nat → Nat → Nat → Bool
  | 0, _, _ => false
  | f + 1, i, j => match ops[j]? with
    | none => false
    | some o => o.after.any fun e => Region.binds md e && (e.on == i || ((match e.ground with | .chain => true | .data => true | _ => false) && waitsFor md ops f i e.on))
/-- What is done had all done that it waits for. -/
def Done (md : Region.Mode) (ops : Array Oper) (listed : Array Bool) : Prop := ∀ m o, ops[m]? = some o → listed.getD m false = true → ∀ e ∈ o.after, Region.binds md e = true → listed.getD e.on false = true
theorem waits_not {listed : Array Bool} (hd : Done md ops listed) {i : Nat} (hi : listed.getD i false = false) : ∀ (f j : Nat), (∀ o, ops[j]? = some o → ∀ e ∈ o.after, Region.binds md e = true → listed.getD e.on false = true) → waitsFor md ops f i j = false
  | 0, _, _ => rfl
  | f + 1, j, h => by
    unfold waitsFor
    cases hj : ops[j]? with
    | none => rfl
    | some o =>
      dsimp only
      rw [Bool.eq_false_iff]
      intro ha
      obtain ⟨e, he, h1⟩ := Array.any_eq_true'.1 ha
      simp only [Bool.and_eq_true, Bool.or_eq_true, beq_iff_eq] at h1
      have hl := h o hj e he h1.1
      rcases h1.2 with h2 | ⟨_, h2⟩
      · rw [h2, hi] at hl; cases hl
      · rw [waits_not hd hi f e.on (fun o' ho' => hd e.on o' ho' hl)] at h2; cases h2
theorem Done.set {listed : Array Bool} (hd : Done md ops listed) {j : Nat} (hj : j ∈ Region.ready md ops listed) : Done md ops (listed.setIfInBounds j true) := fun m o ho hm e he hb => by
  by_cases hmj : j = m
  · subst hmj
    obtain ⟨_, o', ho', hall⟩ := mem_ready.1 hj
    rw [ho] at ho'
    cases ho'
    exact getD_set_true (hall e he hb)
  · rw [getD_set_ne false hmj] at hm
    exact getD_set_true (hd m o ho hm e he hb)
theorem done_start (n : Nat) : Done md ops (Array.replicate n false) := fun m o _ hm => by
  simp [Array.getElem?_replicate] at hm
  split at hm <;> cases hm

theorem wpAnyO_first {i : Nat} {oi : Oper} (hi : ops[i]? = some oi) (hsel : ∀ (j : Nat) (o : Oper) cs b, ops[j]? = some o → o.op ≠ .select cs b) : ∀ (fuel : Nat) (listed : Array Bool) (G : List Nat) (F : World → Prop) (a : Act),
    Done md ops listed → (∀ j oj, ops[j]? = some oj → j ≠ i → listed.getD j true = false → (∀ e ∈ oj.after, Region.binds md e = true → e.on ≠ i) → waitsFor md ops ops.size i j = false → oi.apart ops oj = true ∧ kindOk (ks.getD i 0) (ks.getD j 0) = true) →
    i ∈ Region.ready md ops listed → oOp P ops ks E i (wpAnyO P md ops ks E Q fuel (listed.setIfInBounds i true)) G F a → wpAnyO P md ops ks E Q (fuel + 1) listed G F a := by
  intro fuel
  induction fuel with
  | zero =>
    intro listed G F a _ _ hr H
    refine ⟨fun h => (by rw [h] at hr; cases hr), fun j hj => ?_⟩
    by_cases hji : j = i
    · subst hji; exact H
    · obtain ⟨_, _, _, h0⟩ := oOp_some H
      have := ready_mono hj hji
      rw [h0.1] at this
      cases this
  | succ fuel ih =>
    intro listed G F a hdone hfree hr H
    refine ⟨fun h => (by rw [h] at hr; cases hr), fun j hj => ?_⟩
    by_cases hji : j = i
    · subst hji; exact H
    · obtain ⟨hjun, oj, hoj, hall⟩ := mem_ready.1 hj
      have hnot : ∀ e ∈ oj.after, Region.binds md e = true → e.on ≠ i := fun e he hb heq => by
        have g1 := hall e he hb
        have g0 := (mem_ready.1 hr).1
        rw [heq] at g1
        rcases Nat.lt_or_ge i listed.size with h' | h'
        · simp [h'] at g0 g1; rw [g0] at g1; cases g1
        · simp [Array.getElem?_eq_none h'] at g1
      have hiun : listed.getD i false = false := by
        have g0 := (mem_ready.1 hr).1
        rcases Nat.lt_or_ge i listed.size with h' | h'
        · simpa [h'] using g0
        · simp [Array.getElem?_eq_none h'] at g0
      have hwt := waits_not hdone hiun ops.size j (fun o ho => by rw [hoj] at ho; cases ho; exact hall)
      obtain ⟨hap, hko⟩ := hfree j oj hoj hji hjun hnot hwt
      have hc := wpAnyO_closed (P := P) (md := md) (ops := ops) (ks := ks) (E := E) (Q := Q) fuel ((listed.setIfInBounds i true).setIfInBounds j true)
      have hcO : Closed (wpAnyO P md ops ks E Q (fuel + 1) (listed.setIfInBounds i true)) := wpAnyO_closed _ _
      have h1 : oOp P ops ks E i (oOp P ops ks E j (wpAnyO P md ops ks E Q fuel ((listed.setIfInBounds i true).setIfInBounds j true))) G F a := oOp_mono (fun _ _ _ h => h.2 j (ready_mono hj hji)) hcO H
      have h2 := swapO hi hoj hap (fun cs b => hsel i oi cs b hi) (fun cs b => hsel j oj cs b hoj) hko hc h1
      have hfree' : ∀ k ok, ops[k]? = some ok → k ≠ i → (listed.setIfInBounds j true).getD k true = false → (∀ e ∈ ok.after, Region.binds md e = true → e.on ≠ i) → waitsFor md ops ops.size i k = false → oi.apart ops ok = true ∧ kindOk (ks.getD i 0) (ks.getD k 0) = true := fun k ok hk hki hun hno hwk => by
        refine hfree k ok hk hki ?_ hno hwk
        by_cases hjk : j = k
        · subst hjk; exact hjun
        · rw [getD_set_ne true hjk] at hun; exact hun
      refine oOp_mono (fun G' F' a' h3 => ih (listed.setIfInBounds j true) G' F' a' (hdone.set hj) hfree' (ready_mono hr (Ne.symm hji)) ?_) (oOp_closed hc) h2
      rw [Array.setIfInBounds_comm _ _ hji]
      exact h3

/-- The walk in the text's order. -/
def wpO (P : Program) (ops : Array Oper) (E : Env) (Q : Act → World → Prop) : List Nat → List Oper → Cont
  | _, [], _, F, a => ∀ w, E.C w → F w → Q a w
  | ks, o :: l, G, F, a => if Region.wanted o (yielded ops a.tmps) = true then stepO P E (ks.headD 0) o (wpO P ops E Q ks.tail l) G F a else wpO P ops E Q ks.tail l G F (a.put o.dst undef)

/-- May the operations be taken in the text's order? -/
def lexO (md : Region.Mode) (ops : Array Oper) (ks : Array Nat) : Nat → Nat → Array Bool → Bool
  | 0, _, listed => (Region.ready md ops listed).isEmpty
  | fuel + 1, k, listed => (Region.ready md ops listed).contains k && Region.free md ops listed k &&
      ((List.range ops.size).all fun j => j == k || listed.getD j true || (match ops[j]? with
        | none => true
        | some _ => kindOk (ks.getD k 0) (ks.getD j 0) || waitsFor md ops ops.size k j)) &&
      lexO md ops ks fuel (k + 1) (listed.setIfInBounds k true)

theorem wpAnyO_lex (hs : Region.noSelect ops = true) : ∀ (l : List Oper) (kl : List Nat) (k : Nat) (listed : Array Bool) (G : List Nat) (F : World → Prop) (a : Act), Done md ops listed → (∀ j, l[j]? = ops[k + j]?) → (∀ j, kl.getD j 0 = ks.getD (k + j) 0) →
    lexO md ops ks l.length k listed = true → wpO P ops E Q kl l G F a → wpAnyO P md ops ks E Q l.length listed G F a
  | [], _, _, _, _, _, _, _, _, _, hB, h => ⟨by simpa [lexO] using hB, h⟩
  | o :: l, kl, k, listed, G, F, a, hdone, hl, hkl, hB, h => by
    have h0 : ops[k]? = some o := by simpa using (hl 0).symm
    have hk0 : kl.headD 0 = ks.getD k 0 := by have := hkl 0; rw [Nat.add_zero] at this; rw [← this]; cases kl <;> rfl
    simp only [List.length_cons, lexO, Bool.and_eq_true] at hB
    obtain ⟨⟨⟨hr, hf⟩, hkk⟩, hB'⟩ := hB
    have ih := fun G' F' a' => wpAnyO_lex hs l kl.tail (k + 1) (listed.setIfInBounds k true) G' F' a' (hdone.set (by simpa using hr)) (fun j => by have := hl (j + 1); simpa [Nat.add_assoc, Nat.add_comm 1 j] using this)
      (fun j => by have := hkl (j + 1); rw [show k + 1 + j = k + (j + 1) by omega, ← this]; cases kl <;> simp) hB'
    refine wpAnyO_first h0 (Region.noSelect_spec hs) l.length listed G F a hdone ?_ (by simpa using hr) ?_
    · intro j oj hj hne hun hno hwt
      refine ⟨Region.free_spec h0 hf j oj hj hne hun hno, ?_⟩
      have := List.all_eq_true.1 hkk j (List.mem_range.2 (Array.getElem?_eq_some_iff.1 hj).1)
      simpa [hj, hne, hun, hwt] using this
    · rw [oOp_at h0]
      rw [wpO] at h
      split
      · rename_i hw
        rw [if_pos hw, hk0] at h
        exact stepO_turn (fun _ => Iff.rfl) (fun _ => Iff.rfl) rfl (fun _ _ _ _ _ g1 f1 kk => wpAnyO_closed _ _ _ _ _ _ _ g1 f1 (ih _ _ _ kk)) h
      · rename_i hw
        rw [if_neg hw] at h
        exact ih _ _ _ h

/-- May the operations be taken in this order? -/
def permO (md : Region.Mode) (ops : Array Oper) (ks : Array Nat) : List Nat → Array Bool → Bool
  | [], listed => (Region.ready md ops listed).isEmpty
  | k :: r, listed => (Region.ready md ops listed).contains k && Region.free md ops listed k &&
      ((List.range ops.size).all fun j => j == k || listed.getD j true || (match ops[j]? with
        | none => true
        | some _ => kindOk (ks.getD k 0) (ks.getD j 0) || waitsFor md ops ops.size k j)) &&
      permO md ops ks r (listed.setIfInBounds k true)
theorem wpAnyO_perm (hs : Region.noSelect ops = true) : ∀ (ord : List Nat) (listed : Array Bool) (G : List Nat) (F : World → Prop) (a : Act), Done md ops listed → (∀ k ∈ ord, k < ops.size) →
    permO md ops ks ord listed = true → wpO P ops E Q (ord.map fun k => ks.getD k 0) (ord.filterMap fun k => ops[k]?) G F a → wpAnyO P md ops ks E Q ord.length listed G F a
  | [], _, _, _, _, _, _, hB, h => ⟨by simpa [permO] using hB, h⟩
  | k :: r, listed, G, F, a, hdone, hl, hB, h => by
    obtain ⟨o, h0⟩ : ∃ o, ops[k]? = some o := ⟨_, Array.getElem?_eq_getElem (hl k List.mem_cons_self)⟩
    simp only [permO, Bool.and_eq_true] at hB
    obtain ⟨⟨⟨hr, hf⟩, hkk⟩, hB'⟩ := hB
    have ih := fun G' F' a' => wpAnyO_perm hs r (listed.setIfInBounds k true) G' F' a' (hdone.set (by simpa using hr)) (fun j hj => hl j (List.mem_cons_of_mem _ hj)) hB'
    rw [List.map_cons, List.filterMap_cons, h0] at h
    refine wpAnyO_first h0 (Region.noSelect_spec hs) r.length listed G F a hdone ?_ (by simpa using hr) ?_
    · intro j oj hj hne hun hno hwt
      refine ⟨Region.free_spec h0 hf j oj hj hne hun hno, ?_⟩
      have := List.all_eq_true.1 hkk j (List.mem_range.2 (Array.getElem?_eq_some_iff.1 hj).1)
      simpa [hj, hne, hun, hwt] using this
    · rw [oOp_at h0]
      dsimp only at h
      rw [wpO] at h
      split
      · rename_i hw
        rw [if_pos hw, List.headD_cons] at h
        exact stepO_turn (fun _ => Iff.rfl) (fun _ => Iff.rfl) rfl (fun _ _ _ _ _ g1 f1 kk => wpAnyO_closed _ _ _ _ _ _ _ g1 f1 (ih _ _ _ kk)) h
      · rename_i hw
        rw [if_neg hw] at h
        exact ih _ _ _ h

theorem put_defers (a : Act) (d : Option Tmp) (v : Value) : (a.put d v).defers = a.defers := by cases d <;> rfl
theorem wpAny_of_O {Q' : Exit → Act → World → Prop} {df : List Deferred} (hQ : ∀ a w, Q a w → Q' .normal a w) (hD : ∀ ch a' w', a'.defers = df → E.die ch w' → Q' (.panic ch) a' w') : ∀ (fuel : Nat) (listed : Array Bool) (G : List Nat) (F : World → Prop) (a : Act) (w : World), a.defers = df → Stays E F → E.C w → F w → (∀ g ∈ G, g < w.heap.size) →
    wpAnyO P md ops ks E Q fuel listed G F a → wpAny P md ops Q' fuel listed a w
  | 0, _, _, _, _, w, _, _, hw, hF, _, h => ⟨h.1, hQ _ _ (h.2 w hw hF)⟩
  | fuel + 1, listed, G, F, a, w, hdf, hS, hw, hF, hG, h => by
    refine ⟨fun h0 => hQ _ _ (h.1 h0 w hw hF), fun i hi => ?_⟩
    have hh := h.2 i hi
    have ih := fun G' F' a' w' => wpAny_of_O hQ hD fuel (listed.setIfInBounds i true) G' F' a' w'
    unfold oOp at hh
    unfold wpOp
    split
    · rename_i ho; simp only [ho] at hh; exact ih _ _ _ _ hdf hS hw hF hG hh
    · rename_i o ho
      simp only [ho] at hh
      split
      · rename_i hwt
        rw [if_pos hwt] at hh
        refine .inl ?_
        unfold Oper.wp
        generalize ks.getD i 0 = κ at hh
        match κ, hh with
        | 0, hh =>
          obtain ⟨hp, v, hq, hk⟩ := hh
          have h3 := hq w hw
          have hn := plain_enter hp a.eval P w
          unfold Oper.quietAt at h3
          generalize (execOp a.eval o).run P w = r at *
          cases r with
          | ok n w' =>
            cases n <;> simp only [Oper.quietUpon] at h3 <;> simp only [Oper.upon]
            case value u => obtain ⟨rfl, rfl⟩ := h3; exact ih _ _ _ _ ((put_defers _ _ _).trans hdf) hS hw hF hG hk
            case skip => obtain ⟨rfl, rfl⟩ := h3; exact ih _ _ _ _ ((put_defers _ _ _).trans hdf) hS hw hF hG hk
            case enter f args => exact absurd rfl (hn w' f args)
          | halt x w' => simp only [Oper.quietUpon] at h3
        | 1, hh =>
          obtain ⟨f, args, hen, α, val, own, R, hR, _, hc, hk⟩ := hh
          rw [hen w hw]
          simp only [Oper.upon]
          refine (hc w hw hF).mono fun e w' hr => ?_
          rcases hr with ⟨x, he, hRx, hb, hown⟩ | ⟨ch, he, hd⟩
          case inr => subst he; exact hD ch a w' hdf hd
          subst he
          exact ih _ _ _ _ ((put_defers _ _ _).trans hdf) (stays_and hS (hR x)) (E.go hw hb) ⟨hS w w' hw hF hb, hRx⟩ (fun g hg => by
            rcases List.mem_append.1 hg with hg | hg
            · exact (hown g hg).2
            · exact Nat.lt_of_lt_of_le (hG g hg) (E.size hb)) (hk x fun g hg => ⟨Nat.le_trans (E.lo hw) (hown g hg).1, fun hg' => absurd (hG g hg') (by have := (hown g hg).1; omega)⟩)
        | 2, hh =>
          obtain ⟨obj, val, hr, hk⟩ := hh
          rw [hr w]
          simp only [Oper.upon]
          have hb : E.T w (w.alloc obj) := E.new obj hw
          exact ih _ _ _ _ ((put_defers _ _ _).trans hdf) (stays_and hS (stays_blk (E.own (E.lo hw)) _)) (E.go hw hb) ⟨hS w _ hw hF hb, heap1 w obj⟩ (fun g hg => by
            rw [World.size_alloc]
            rcases List.mem_cons.1 hg with rfl | hg
            · omega
            · have := hG g hg; omega) (hk w.heap.size (E.lo hw) fun hg => absurd (hG _ hg) (by omega))
        | n + 3, hh =>
          obtain ⟨α, val, F1, _, hs, hr, _, _, hk⟩ := hh
          obtain ⟨x, w', hr', hw', hsz, hF1⟩ := hr w hw hF
          rcases hr' with hr' | ⟨hr', hv⟩
          · rw [hr']
            simp only [Oper.upon]
            exact ih _ _ _ _ ((put_defers _ _ _).trans hdf) (hs x) hw' hF1 (fun g hg => Nat.lt_of_lt_of_le (hG g hg) hsz) (hk x)
          · rw [hr']
            simp only [Oper.upon]
            rw [← hv]
            exact ih _ _ _ _ ((put_defers _ _ _).trans hdf) (hs x) hw' hF1 (fun g hg => Nat.lt_of_lt_of_le (hG g hg) hsz) (hk x)
      · rename_i hwt
        rw [if_neg hwt] at hh
        exact ih _ _ _ _ ((put_defers _ _ _).trans hdf) hS hw hF hG hh

/-- One walk in the text's order serves every order. -/
theorem wp_region_envD {id : Nat} {Q' : Exit → Act → World → Prop} {a : Act} {wr : World} {l : List Oper} (F0 : World → Prop) (hS : Stays E F0) (kl : List Nat) (hw : E.C { wr with drawn := wr.drawn + 1 }) (hF : F0 { wr with drawn := wr.drawn + 1 }) (hD : ∀ ch a' w', a'.defers = a.defers → E.die ch w' → Q' (.panic ch) a' w') (hm : P.follows .mixedOrders = true) (hs : Region.noSelect l.toArray = true)
    (hB : lexO .any l.toArray kl.toArray l.length 0 (Array.replicate l.length false) = true)
    (h : wpO P l.toArray E (fun a' w' => Q' .normal a' w') kl l [] F0 a) : (Code.region id l.toArray true).wp P Q' a wr := by
  refine wp_region_any hm ?_
  have h1 := wpAnyO_lex (md := .any) (ks := kl.toArray) hs l kl 0 (Array.replicate l.length false) [] F0 a (done_start _) (by simp) (by intro j; simp [List.getD]) hB h
  have h2 := wpAny_of_O (Q' := Q') (fun _ _ h => h) hD l.length (Array.replicate l.length false) [] F0 a { wr with drawn := wr.drawn + 1 } rfl hS hw hF (by simp) h1
  simpa using h2

theorem wp_region_env {id : Nat} {Q' : Exit → Act → World → Prop} {a : Act} {wr : World} {l : List Oper} (F0 : World → Prop) (hS : Stays E F0) (kl : List Nat) (hw : E.C { wr with drawn := wr.drawn + 1 }) (hF : F0 { wr with drawn := wr.drawn + 1 }) (hm : P.follows .mixedOrders = true) (hs : Region.noSelect l.toArray = true)
    (hB : lexO .any l.toArray kl.toArray l.length 0 (Array.replicate l.length false) = true)
    (h : wpO P l.toArray E (fun a' w' => Q' .normal a' w') kl l [] F0 a) (hN : ∀ ch w, ¬ E.die ch w := by exact fun _ _ h => h) : (Code.region id l.toArray true).wp P Q' a wr :=
  wp_region_envD F0 hS kl hw hF (fun ch _ w' _ h => (hN ch w' h).elim) hm hs hB h

/-- One walk in an order of one's own serves every order. -/
theorem wp_region_envp {id : Nat} {Q' : Exit → Act → World → Prop} {a : Act} {wr : World} {l : List Oper} (F0 : World → Prop) (hS : Stays E F0) (kl ord : List Nat) (hw : E.C { wr with drawn := wr.drawn + 1 }) (hF : F0 { wr with drawn := wr.drawn + 1 }) (hm : P.follows .mixedOrders = true) (hs : Region.noSelect l.toArray = true)
    (hB : (ord.length == l.length && (ord.all (· < l.length) && permO .any l.toArray kl.toArray ord (Array.replicate l.length false))) = true)
    (h : wpO P l.toArray E (fun a' w' => Q' .normal a' w') (ord.map fun k => kl.getD k 0) (ord.filterMap fun k => l[k]?) [] F0 a) (hN : ∀ ch w, ¬ E.die ch w := by exact fun _ _ h => h) : (Code.region id l.toArray true).wp P Q' a wr := by
  refine wp_region_any hm ?_
  simp only [Bool.and_eq_true, beq_iff_eq] at hB
  obtain ⟨hl, ha, hB⟩ := hB
  have h1 := wpAnyO_perm (md := .any) (ks := kl.toArray) (P := P) (E := E) (Q := fun a' w' => Q' .normal a' w') hs ord (Array.replicate l.length false) [] F0 a (done_start _) (fun k hk => by simpa using List.all_eq_true.1 ha k hk) hB (by simpa [List.getD] using h)
  have h2 := wpAny_of_O (Q' := Q') (fun _ _ h => h) (fun ch _ w' _ h => (hN ch w' h).elim) ord.length (Array.replicate l.length false) [] F0 a { wr with drawn := wr.drawn + 1 } rfl hS hw hF (by simp) h1
  rw [hl] at h2
  simpa using h2

theorem wpO_closed : ∀ (l : List Oper) (kl : List Nat), Closed (wpO P ops E Q kl l)
  | [], _ => fun _ _ _ _ _ _ hF h w hw hf => h w hw ((hF w).2 hf)
  | _ :: l, kl => fun G G' F F' a hG hF h => by
    rw [wpO] at h ⊢
    split
    · rename_i hw
      rw [if_pos hw] at h
      exact stepO_turn hG hF rfl (fun _ _ _ _ _ g1 f1 k => wpO_closed l kl.tail _ _ _ _ _ g1 f1 k) h
    · rename_i hw
      rw [if_neg hw] at h
      exact wpO_closed l kl.tail _ _ _ _ _ hG hF h

/-! The steps of the walk. -/
theorem wpO_nil {kl : List Nat} {G : List Nat} {F : World → Prop} {a : Act} (h : ∀ w, E.C w → F w → Q a w) : wpO P ops E Q kl [] G F a := h
/-- n operations that only read what lay. -/
theorem wpO_quiet : ∀ (n : Nat) {kl : List Nat} {l : List Oper} {G : List Nat} {F : World → Prop} {a : Act}, (kl.take n = List.replicate n 0) → ((l.take n).all plainOp = true) →
    wpQuiet P ops (fun w' => ∃ n : In E, w' = n.w) (fun a' => wpO P ops E Q (kl.drop n) (l.drop n) G F a') (l.take n) a → wpO P ops E Q kl l G F a
  | 0, _, _, _, _, _, _, _, h => h
  | _ + 1, _, [], _, _, _, _, _, h => h
  | n + 1, [], _ :: _, _, _, _, hk, _, _ => by simp [List.replicate_succ] at hk
  | n + 1, k :: kl, o :: l, G, F, a, hk, hp, h => by
    rw [List.take_succ_cons, List.replicate_succ] at hk
    injection hk with hk0 hk1
    rw [List.take_succ_cons, List.all_cons, Bool.and_eq_true] at hp
    rw [wpO]
    have h' : if Region.wanted o (yielded ops a.tmps) then o.quiet P a (fun w' => ∃ n : In E, w' = n.w) (wpQuiet P ops (fun w' => ∃ n : In E, w' = n.w) (fun a' => wpO P ops E Q (kl.drop n) (l.drop n) G F a') (l.take n)) else wpQuiet P ops (fun w' => ∃ n : In E, w' = n.w) (fun a' => wpO P ops E Q (kl.drop n) (l.drop n) G F a') (l.take n) (a.put o.dst undef) := h
    split
    · rename_i hw
      rw [if_pos hw] at h'
      obtain ⟨v, hq, hk⟩ := h'
      rw [List.headD_cons, hk0]
      exact ⟨hp.1, v, fun w hw => hq w (inC hw), wpO_quiet n hk1 hp.2 hk⟩
    · rename_i hw
      rw [if_neg hw] at h'
      exact wpO_quiet n hk1 hp.2 h'
/-- An operation that reads a block of the call's own. -/
theorem wpO_read {kl : List Nat} {o : Oper} {l : List Oper} {G : List Nat} {F : World → Prop} {a : Act} (v : Value) (hw : Region.wanted o (yielded ops a.tmps) = true) (hS : Stays E F)
    (hr : ∀ w, E.C w → F w → (execOp a.eval o).run P w = .ok (.value v) w) (h : wpO P ops E Q kl l G F (a.put o.dst v)) : wpO P ops E Q (3 :: kl) (o :: l) G F a := by
  rw [wpO, if_pos hw]
  exact ⟨Unit, fun _ => v, fun _ => F, ⟨()⟩, fun _ => hS, fun w hc hf => ⟨(), w, .inl (hr w hc hf), hc, Nat.le_refl _, hf⟩, fun h => absurd h (by decide), fun h => absurd h (by decide), fun _ => h⟩
/-- The same, beside calls and new blocks. -/
theorem wpO_read5 {kl : List Nat} {o : Oper} {l : List Oper} {G : List Nat} {F : World → Prop} {a : Act} (v : Value) (hw : Region.wanted o (yielded ops a.tmps) = true) (hS : Stays E F)
    (hr : ∀ w, E.C w → F w → (execOp a.eval o).run P w = .ok (.value v) w) (h : wpO P ops E Q kl l G F (a.put o.dst v)) : wpO P ops E Q (5 :: kl) (o :: l) G F a := by
  rw [wpO, if_pos hw]
  exact ⟨Unit, fun _ => v, fun _ => F, ⟨()⟩, fun _ => hS, fun w hc hf => ⟨(), w, .inl (hr w hc hf), hc, Nat.le_refl _, hf⟩, fun h => absurd h (by decide), fun _ => ⟨hS, fun _ => ⟨hr, fun _ => Iff.rfl⟩⟩, fun _ => h⟩
/-- An operation whose guard says no. -/
theorem wpO_skip {k : Nat} {kl : List Nat} {o : Oper} {l : List Oper} {G : List Nat} {F : World → Prop} {a : Act} (hw : Region.wanted o (yielded ops a.tmps) = false) (h : wpO P ops E Q kl l G F (a.put o.dst undef)) : wpO P ops E Q (k :: kl) (o :: l) G F a := by
  rw [wpO, if_neg (by rw [hw]; exact Bool.false_ne_true)]; exact h
/-- A call whose result is known whole. -/
theorem wpO_call {kl : List Nat} {o : Oper} {l : List Oper} {G : List Nat} {F : World → Prop} {a : Act} {f : FuncId} {args : Array Value} (v : Value) (hw : Region.wanted o (yielded ops a.tmps) = true)
    (hen : ∀ w, (execOp a.eval o).run P w = .ok (.enter f args) w)
    (hc : ∀ w, E.C w → F w → Calls P f args w fun e w' => e = .returned v ∧ E.T w w') (h : wpO P ops E Q kl l G F (a.put o.dst v)) : wpO P ops E Q (1 :: kl) (o :: l) G F a := by
  rw [wpO, if_pos hw]
  exact ⟨f, args, fun w _ => hen w, Unit, fun _ => v, fun _ => [], fun _ _ => True, fun _ => stays_true, fun _ => ⟨(), fun g hg => by cases hg⟩, fun w hw hF => (hc w hw hF).mono fun e w' ⟨he, hb⟩ => .inl ⟨(), he, trivial, hb, fun g hg => by cases hg⟩,
    fun _ _ => wpO_closed _ _ _ _ _ _ _ (fun _ => Iff.rfl) (fun w => ⟨fun h => ⟨h, trivial⟩, fun h => h.1⟩) h⟩
/-- A call that hands back memory of its own. -/
theorem wpO_callx {kl : List Nat} {o : Oper} {l : List Oper} {G : List Nat} {F : World → Prop} {a : Act} {f : FuncId} {args : Array Value} {α : Type} (val : α → Value) (own : α → List Nat) (R : α → World → Prop) (hw : Region.wanted o (yielded ops a.tmps) = true)
    (hen : ∀ w, (execOp a.eval o).run P w = .ok (.enter f args) w) (hR : ∀ x, Stays E (R x)) (hex : ∀ G' : List Nat, ∃ x, ∀ g ∈ own x, E.lim ≤ g ∧ g ∉ G')
    (hc : ∀ w, E.C w → F w → Calls P f args w fun e w' => ∃ x, e = .returned (val x) ∧ R x w' ∧ E.T w w' ∧ ∀ g ∈ own x, w.heap.size ≤ g ∧ g < w'.heap.size)
    (h : ∀ x, (∀ g ∈ own x, E.lim ≤ g ∧ g ∉ G) → wpO P ops E Q kl l (own x ++ G) (fun w => F w ∧ R x w) (a.put o.dst (val x))) : wpO P ops E Q (1 :: kl) (o :: l) G F a := by
  rw [wpO, if_pos hw]
  exact ⟨f, args, fun w _ => hen w, α, val, own, R, hR, hex, fun w hw hF => (hc w hw hF).mono fun _ _ h => .inl h, h⟩
/-- A call that gives up: what is walked behind it, at whatever value, is walked for the other orders alone. -/
theorem wpO_die {kl : List Nat} {o : Oper} {l : List Oper} {G : List Nat} {F : World → Prop} {a : Act} {f : FuncId} {args : Array Value} (v : Value) (hw : Region.wanted o (yielded ops a.tmps) = true)
    (hen : ∀ w, (execOp a.eval o).run P w = .ok (.enter f args) w)
    (hc : ∀ w, E.C w → F w → Calls P f args w fun e w' => ∃ ch, e = .panicked ch ∧ E.die ch w') (h : wpO P ops E Q kl l G (fun w => F w ∧ False) (a.put o.dst v)) : wpO P ops E Q (1 :: kl) (o :: l) G F a := by
  rw [wpO, if_pos hw]
  exact ⟨f, args, fun w _ => hen w, Unit, fun _ => v, fun _ => [], fun _ _ => False, fun _ _ _ _ h _ => h, fun _ => ⟨(), fun g hg => by cases hg⟩, fun w hw hF => (hc w hw hF).mono fun _ _ h => .inr h, fun _ _ => h⟩
/-- A new block. -/
theorem wpO_alloc {kl : List Nat} {o : Oper} {l : List Oper} {G : List Nat} {F : World → Prop} {a : Act} (obj : Obj) (hw : Region.wanted o (yielded ops a.tmps) = true)
    (hr : ∀ w, (execOp a.eval o).run P w = .ok (.value (.pointer (some ⟨w.heap.size, 0, none⟩))) (w.alloc obj))
    (h : ∀ g, E.lim ≤ g → g ∉ G → wpO P ops E Q kl l (g :: G) (fun w => F w ∧ w.heap[g]? = some obj) (a.put o.dst (.pointer (some ⟨g, 0, none⟩)))) : wpO P ops E Q (2 :: kl) (o :: l) G F a := by
  rw [wpO, if_pos hw]
  exact ⟨obj, fun g => .pointer (some ⟨g, 0, none⟩), hr, h⟩
/-- A new row of n elements. -/
theorem wpO_row {kl : List Nat} {o : Oper} {l : List Oper} {G : List Nat} {F : World → Prop} {a : Act} (obj : Obj) (n : Nat) (hw : Region.wanted o (yielded ops a.tmps) = true)
    (hr : ∀ w, (execOp a.eval o).run P w = .ok (.value (.slice (some ⟨w.heap.size, 0, none⟩) n n)) (w.alloc obj))
    (h : ∀ g, E.lim ≤ g → g ∉ G → wpO P ops E Q kl l (g :: G) (fun w => F w ∧ w.heap[g]? = some obj) (a.put o.dst (.slice (some ⟨g, 0, none⟩) n n))) : wpO P ops E Q (2 :: kl) (o :: l) G F a := by
  rw [wpO, if_pos hw]
  exact ⟨obj, fun g => .slice (some ⟨g, 0, none⟩) n n, hr, h⟩
/-- Facts that do not speak of block g. -/
def Away (g : Nat) (F : World → Prop) : Prop := ∀ w w' : World, (∀ k, k < w.heap.size → k ≠ g → w'.heap[k]? = w.heap[k]?) → F w → F w'
theorem away_true (g : Nat) : Away g (fun _ => True) := fun _ _ _ _ => trivial
theorem away_blk {g k : Nat} (h : k ≠ g) (o : Obj) : Away g (fun w => w.heap[k]? = some o) := fun _ _ hw e => (hw k (Array.getElem?_eq_some_iff.1 e).1 h).trans e
theorem away_and {g : Nat} {F R : World → Prop} (h : Away g F) (k : Away g R) : Away g (fun w => F w ∧ R w) := fun w w' hw e => ⟨h w w' hw e.1, k w w' hw e.2⟩
/-- A whole struct is stored into a block of the call's own. -/
theorem wpO_store {kl : List Nat} {o : Oper} {l : List Oper} {G : List Nat} {F : World → Prop} {a : Act} {ty : TypeId} {x y : Operand} {g : Nat} {t : TypeId} {old : Array Value} (F0 : World → Prop) (cells : Array Value) (hw : Region.wanted o (yielded ops a.tmps) = true)
    (ho : o.op = .store ty x y) (hx : a.eval x = .pointer (some ⟨g, 0, none⟩)) (hy : a.eval y = .agg cells) (hg : E.mine g) (hi : (P.info? ty).map (·.size) = some cells.size) (hsz : old.size = cells.size) (h1 : cells.toList.all (·.oneCell') = true)
    (hF : ∀ w, F w → F0 w ∧ w.heap[g]? = some (.cells old t (0, 0))) (hS : Stays E F0) (hA : Away g F0)
    (h : wpO P ops E Q kl l G (fun w => F0 w ∧ w.heap[g]? = some (.cells cells t (0, 0))) (a.put o.dst undef)) : wpO P ops E Q (3 :: kl) (o :: l) G F a := by
  rw [wpO, if_pos hw]
  refine ⟨Unit, fun _ => undef, fun _ w => F0 w ∧ w.heap[g]? = some (.cells cells t (0, 0)), ⟨()⟩, fun _ => stays_and hS (stays_blk hg _), fun w hb hf => ?_, fun h => absurd h (by decide), fun h => absurd h (by decide), fun _ => h⟩
  obtain ⟨h0, hblk⟩ := hF w hf
  refine ⟨(), w.setRow g cells, .inr ⟨?_, rfl⟩, E.free hb rfl rfl rfl (by rw [setRow_size]; exact Nat.le_refl _) (fun k hk => setRow_other _ _ _ _ (fun e => hk (e ▸ hg))), by rw [setRow_size]; exact Nat.le_refl _, hA w _ (fun k _ hk => setRow_other _ _ _ _ hk) h0, setRow_heap _ _ _ _ _ _ hblk⟩
  have := run_storeVar_row w g t ty old cells hblk hi hsz (by rw [← Array.all_toList]; exact h1)
  obtain ⟨dst, op, type, pos, after, guard⟩ := o
  subst ho
  simp only [execOp, hx, hy, Instr.storeAt, Sem.run_bind]
  simp [Instr.sureAddr, this]

/-- append onto a row of the call's own, of nothing too. -/
theorem wpO_append0 {kl : List Nat} {o : Oper} {l : List Oper} {G : List Nat} {F : World → Prop} {a : Act} (F0 : World → Prop) (s x : Operand) (t : TypeId) (hw : Region.wanted o (yielded ops a.tmps) = true)
    (ho : o.op = .call { callee := .builtin .append, args := #[s, x], argTypes := #[t, t] })
    (base : Nat) (e : TypeId) (i : TypeInfo) (z : Value) (size bytes : Nat) (ht : P.underlying t = some (.slice e)) (hi : P.info? e = some i) (hz : i.zero = some z)
    (hsize : i.size = size) (hby : i.bytes = bytes) (hzs : z.cells.size = size) (hsz : 0 < size)
    (n : Nat) (xs : List Value) (gb cb : Nat) (hs : a.eval s = .slice (some ⟨gb, 0, none⟩) n cb) (hmine : E.mine gb)
    (ad : Addr) (m c : Nat) (news : List Value) (hx : a.eval x = .slice (some ad) m c) (hl : news.length = m * size) (h1 : ∀ u ∈ news, u.oneCell' = true)
    (h63 : n + m ≤ maxLen) (hbytes : (n + m) * bytes ≤ 140737488355328) (hbase : base ≤ E.lim) (hmb : ∀ k, base ≤ k → E.mine k)
    (hF : ∀ w, E.C w → F w → F0 w ∧ w.ownsRow base e size (.slice (some ⟨gb, 0, none⟩) n cb) n xs ∧ ∀ j u, news[j]? = some u → w.cell? (ad.add j) = some u) (hS : Stays E F0) (hA : Away gb F0)
    (h : ∀ gb' cb', base ≤ gb' → wpO P ops E Q kl l G (fun w => F0 w ∧ w.ownsRow base e size (.slice (some ⟨gb', 0, none⟩) (n + m) cb') (n + m) (xs ++ news)) (a.put o.dst (.slice (some ⟨gb', 0, none⟩) (n + m) cb'))) : wpO P ops E Q (3 :: kl) (o :: l) G F a := by
  rw [wpO, if_pos hw]
  refine ⟨{ y : Nat × Nat // base ≤ y.1 }, fun y => .slice (some ⟨y.1.1, 0, none⟩) (n + m) y.1.2, fun y w => F0 w ∧ w.ownsRow base e size (.slice (some ⟨y.1.1, 0, none⟩) (n + m) y.1.2) (n + m) (xs ++ news), ⟨⟨(base, 0), Nat.le_refl _⟩⟩, fun y => stays_and hS ?_, fun w hb hf => ?_, fun h => absurd h (by decide), fun h => absurd h (by decide), fun y => h y.1.1 y.1.2 y.2⟩
  · intro w w' hc hr ht'
    refine ⟨hr.1, ?_⟩
    rcases hr.2 with ⟨e, _⟩ | ⟨g, cap, cur, hv, hg, hh, rest⟩
    · cases e
    · exact .inr ⟨g, cap, cur, hv, hg, E.blk hc ht' (hmb g hg) hh, rest⟩
  · obtain ⟨h0, hown, hnews⟩ := hF w hb hf
    obtain ⟨v', w', hr, h2, h3, h4⟩ := run_append_own (P := P) w base t o.type e i z size bytes ht hi hz hsize hby hzs hsz _ n xs hown ad m c news hl hnews h1 h63 hbytes (Nat.le_trans hbase (E.lo hb))
    obtain ⟨gb', cb', rfl⟩ : ∃ gb' cb', v' = .slice (some ⟨gb', 0, none⟩) (n + m) cb' := by
      rcases h2.2 with ⟨e, _⟩ | ⟨g, cap, cur, e, _⟩
      · have := (h4.1 e).1; cases this
      · exact ⟨g, cap, e⟩
    have hk : ∀ k, k < w.heap.size → k ≠ gb → w'.heap[k]? = w.heap[k]? := fun k hk hne => h3.block k hk (by intro e; exact hne (Option.some.inj e))
    have hle : base ≤ gb' := (h2.lt gb' rfl).1
    refine ⟨⟨(gb', cb'), hle⟩, w', .inl ?_, E.free hb h3.os h3.tape h3.output h3.size (fun k hn => hk k ?_ (fun e => hn (e ▸ hmine))), h3.size, hA w w' hk h0, h2⟩
    · obtain ⟨dst, op, type, pos, after, guard⟩ := o
      subst ho
      simp only [execOp, resolve, invoke, builtin, Sem.run_bind, Sem.run_pure, Result.andThen_ok, List.map_toArray, List.map_cons, List.map_nil, hs, hx, hr]
    · rcases Nat.lt_or_ge k w.heap.size with h | h
      · exact h
      · exact absurd (E.own (Nat.le_trans (E.lo hb) h)) hn

/-- append onto a row that is known, of nothing too: it may be taken ahead of a new block. -/
theorem wpO_append4 {kl : List Nat} {o : Oper} {l : List Oper} {G : List Nat} {F : World → Prop} {a : Act} (F0 : World → Prop) (s x : Operand) (t : TypeId) (hw : Region.wanted o (yielded ops a.tmps) = true)
    (ho : o.op = .call { callee := .builtin .append, args := #[s, x], argTypes := #[t, t] })
    (base : Nat) (e : TypeId) (i : TypeInfo) (z : Value) (size bytes : Nat) (ht : P.underlying t = some (.slice e)) (hi : P.info? e = some i) (hz : i.zero = some z)
    (hsize : i.size = size) (hby : i.bytes = bytes) (hzs : z.cells.size = size) (hsz : 0 < size)
    (n : Nat) (xs : List Value) (gb cb : Nat) (hs : a.eval s = .slice (some ⟨gb, 0, none⟩) n cb) (hmine : E.mine gb) (hG : gb < E.lim ∨ gb ∈ G)
    (ad : Addr) (m c : Nat) (news : List Value) (hx : a.eval x = .slice (some ad) m c) (hl : news.length = m * size) (h1 : ∀ u ∈ news, u.oneCell' = true)
    (h63 : n + m ≤ maxLen) (hbytes : (n + m) * bytes ≤ 140737488355328) (hbase : base ≤ E.lim) (hmb : ∀ k, base ≤ k → E.mine k)
    (hF : ∀ w, E.C w → F w → F0 w ∧ w.ownsRow base e size (.slice (some ⟨gb, 0, none⟩) n cb) n xs ∧ ∀ j u, news[j]? = some u → w.cell? (ad.add j) = some u) (hS : Stays E F0) (hA : Away gb F0)
    (h : ∀ gb' cb', base ≤ gb' → wpO P ops E Q kl l G (fun w => F0 w ∧ w.ownsRow base e size (.slice (some ⟨gb', 0, none⟩) (n + m) cb') (n + m) (xs ++ news)) (a.put o.dst (.slice (some ⟨gb', 0, none⟩) (n + m) cb'))) : wpO P ops E Q (4 :: kl) (o :: l) G F a := by
  rw [wpO, if_pos hw]
  refine ⟨{ y : Nat × Nat // base ≤ y.1 }, fun y => .slice (some ⟨y.1.1, 0, none⟩) (n + m) y.1.2, fun y w => F0 w ∧ w.ownsRow base e size (.slice (some ⟨y.1.1, 0, none⟩) (n + m) y.1.2) (n + m) (xs ++ news), ⟨⟨(base, 0), Nat.le_refl _⟩⟩, fun y => stays_and hS ?_, fun w hb hf => ?_, fun _ => ⟨[gb], fun k hk => by rw [List.mem_singleton.1 hk]; exact hG, fun w hb hf nx w2 hrun k hk hkn => ?_⟩, fun h => absurd h (by decide), fun y => h y.1.1 y.1.2 y.2⟩
  · intro w w' hc hr ht'
    refine ⟨hr.1, ?_⟩
    rcases hr.2 with ⟨e, _⟩ | ⟨g, cap, cur, hv, hg, hh, rest⟩
    · cases e
    · exact .inr ⟨g, cap, cur, hv, hg, E.blk hc ht' (hmb g hg) hh, rest⟩
  · obtain ⟨h0, hown, hnews⟩ := hF w hb hf
    obtain ⟨v', w', hr, h2, h3, h4⟩ := run_append_own (P := P) w base t o.type e i z size bytes ht hi hz hsize hby hzs hsz _ n xs hown ad m c news hl hnews h1 h63 hbytes (Nat.le_trans hbase (E.lo hb))
    obtain ⟨gb', cb', rfl⟩ : ∃ gb' cb', v' = .slice (some ⟨gb', 0, none⟩) (n + m) cb' := by
      rcases h2.2 with ⟨e, _⟩ | ⟨g, cap, cur, e, _⟩
      · have := (h4.1 e).1; cases this
      · exact ⟨g, cap, e⟩
    have hk : ∀ k, k < w.heap.size → k ≠ gb → w'.heap[k]? = w.heap[k]? := fun k hk hne => h3.block k hk (by intro e; exact hne (Option.some.inj e))
    have hle : base ≤ gb' := (h2.lt gb' rfl).1
    refine ⟨⟨(gb', cb'), hle⟩, w', .inl ?_, E.free hb h3.os h3.tape h3.output h3.size (fun k hn => hk k ?_ (fun e => hn (e ▸ hmine))), h3.size, hA w w' hk h0, h2⟩
    · obtain ⟨dst, op, type, pos, after, guard⟩ := o
      subst ho
      simp only [execOp, resolve, invoke, builtin, Sem.run_bind, Sem.run_pure, Result.andThen_ok, List.map_toArray, List.map_cons, List.map_nil, hs, hx, hr]
    · rcases Nat.lt_or_ge k w.heap.size with h | h
      · exact h
      · exact absurd (E.own (Nat.le_trans (E.lo hb) h)) hn
  · obtain ⟨h0, hown, hnews⟩ := hF w hb hf
    obtain ⟨v', w', hr, h2, h3, h4⟩ := run_append_own (P := P) w base t o.type e i z size bytes ht hi hz hsize hby hzs hsz _ n xs hown ad m c news hl hnews h1 h63 hbytes (Nat.le_trans hbase (E.lo hb))
    obtain ⟨dst, op, type, pos, after, guard⟩ := o
    subst ho
    simp only [execOp, resolve, invoke, builtin, Sem.run_bind, Sem.run_pure, Result.andThen_ok, List.map_toArray, List.map_cons, List.map_nil, hs, hx, hr] at hrun
    injection hrun with _ hw2
    subst hw2
    exact h3.block k hk (fun e => hkn (List.mem_singleton.2 (Option.some.inj e)))

/-- append onto a row of the call's own. -/
theorem wpO_append {kl : List Nat} {o : Oper} {l : List Oper} {G : List Nat} {F : World → Prop} {a : Act} (F0 : World → Prop) (s x : Operand) (t : TypeId) (hw : Region.wanted o (yielded ops a.tmps) = true)
    (ho : o.op = .call { callee := .builtin .append, args := #[s, x], argTypes := #[t, t] })
    (base : Nat) (e : TypeId) (i : TypeInfo) (z : Value) (size bytes : Nat) (ht : P.underlying t = some (.slice e)) (hi : P.info? e = some i) (hz : i.zero = some z)
    (hsize : i.size = size) (hby : i.bytes = bytes) (hzs : z.cells.size = size) (hsz : 0 < size)
    (n : Nat) (xs : List Value) (gb cb : Nat) (hs : a.eval s = .slice (some ⟨gb, 0, none⟩) n cb) (hmine : E.mine gb)
    (ad : Addr) (m c : Nat) (news : List Value) (hx : a.eval x = .slice (some ad) m c) (hl : news.length = m * size) (h1 : ∀ u ∈ news, u.oneCell' = true)
    (h63 : n + m ≤ maxLen) (hbytes : (n + m) * bytes ≤ 140737488355328) (hbase : base ≤ E.lim) (hmb : ∀ k, base ≤ k → E.mine k) (_hm : 0 < n + m)
    (hF : ∀ w, E.C w → F w → F0 w ∧ w.ownsRow base e size (.slice (some ⟨gb, 0, none⟩) n cb) n xs ∧ ∀ j u, news[j]? = some u → w.cell? (ad.add j) = some u) (hS : Stays E F0) (hA : Away gb F0)
    (h : ∀ gb' cb', wpO P ops E Q kl l G (fun w => F0 w ∧ w.ownsRow base e size (.slice (some ⟨gb', 0, none⟩) (n + m) cb') (n + m) (xs ++ news)) (a.put o.dst (.slice (some ⟨gb', 0, none⟩) (n + m) cb'))) : wpO P ops E Q (3 :: kl) (o :: l) G F a :=
  wpO_append0 F0 s x t hw ho base e i z size bytes ht hi hz hsize hby hzs hsz n xs gb cb hs hmine ad m c news hx hl h1 h63 hbytes hbase hmb hF hS hA (fun gb' cb' _ => h gb' cb')

end

/-- Behind W nothing that lay is turned but the blocks L. -/
structure KeptBut (L : List Nat) (W w : World) : Prop where
  os : w.os = W.os
  tape : w.tape = W.tape
  output : w.output = W.output
  size : W.heap.size ≤ w.heap.size
  block : ∀ k, k < W.heap.size → k ∉ L → w.heap[k]? = W.heap[k]?
theorem KeptBut.refl (L : List Nat) (W : World) : KeptBut L W W := ⟨rfl, rfl, rfl, Nat.le_refl _, fun _ _ _ => rfl⟩
theorem KeptBut.on {L : List Nat} {W w w' : World} (h : KeptBut L W w) (b : Below w.heap.size w w') : KeptBut L W w' := ⟨b.os.trans h.os, b.tape.trans h.tape, b.output.trans h.output, Nat.le_trans h.size b.size, fun k hk hn => (b.block k (Nat.lt_of_lt_of_le hk h.size)).trans (h.block k hk hn)⟩
theorem KeptBut.drew {L : List Nat} {W w : World} (h : KeptBut L W w) : KeptBut L W { w with drawn := w.drawn + 1 } := ⟨h.os, h.tape, h.output, h.size, h.block⟩
theorem KeptBut.blk {L : List Nat} {W w : World} (h : KeptBut L W w) {g : Nat} {o : Obj} (hb : W.heap[g]? = some o) (hn : g ∉ L) : w.heap[g]? = some o := (h.block g (Array.getElem?_eq_some_iff.1 hb).1 hn).trans hb
theorem KeptBut.below {L : List Nat} {W w : World} (h : KeptBut L W w) {B : Nat} (hB : B ≤ W.heap.size) (hL : ∀ k ∈ L, B ≤ k) : Below B W w := ⟨h.os, h.tape, h.output, h.size, fun k hk => h.block k (by omega) (fun hk' => by have := hL k hk'; omega)⟩
def plainEnv (W : World) (L : List Nat) : Env where
  C w := KeptBut L W w
  T w w' := Below w.heap.size w w'
  mine k := W.heap.size ≤ k ∨ k ∈ L
  go h b := h.on b
  new o _ := (Below.refl _ _).alloc (Nat.le_refl _) o
  size b := b.size
  blk _ b _ h := (b.block _ (Array.getElem?_eq_some_iff.1 h).1).trans h
  lim := W.heap.size
  lo h := h.size
  own h := .inl h
  free h h1 h2 h3 h4 h5 := ⟨h1.trans h.os, h2.trans h.tape, h3.trans h.output, Nat.le_trans h.size h4, fun k hk hn => (h5 k (fun hm => hm.elim (fun h => by omega) hn)).trans (h.block k hk hn)⟩
  some := ⟨W, KeptBut.refl L W⟩
theorem In.block {W : World} {L : List Nat} (n : In (plainEnv W L)) {g : Nat} {o : Obj} (h : W.heap[g]? = some o) (hn : g ∉ L) : n.w.heap[g]? = some o := KeptBut.blk n.hc h hn
theorem In.cell {W : World} {L : List Nat} (n : In (plainEnv W L)) {p : Addr} {v : Value} (h : W.cell? p = some v) (hn : p.block ∉ L) : n.w.cell? p = some v := (World.cell?_of_block (w := W) (n.hc.block p.block (World.block_lt_of_cell? W p h) hn)).trans h
theorem In.bel {W : World} (n : In (plainEnv W [])) : Below W.heap.size W n.w := KeptBut.below n.hc (Nat.le_refl _) (fun _ h => by cases h)
theorem kept_below {W w : World} (h : (plainEnv W []).C w) : Below W.heap.size W w := KeptBut.below h (Nat.le_refl _) (fun _ h => by cases h)
theorem wp_region_own {P : Program} {W : World} {id : Nat} {Q' : Exit → Act → World → Prop} {a : Act} {l : List Oper} (L : List Nat) (F0 : World → Prop) (hS : Stays (plainEnv W L) F0) (hF : F0 { W with drawn := W.drawn + 1 }) (kl : List Nat) (hm : P.follows .mixedOrders = true) (hs : Region.noSelect l.toArray = true)
    (hB : lexO .any l.toArray kl.toArray l.length 0 (Array.replicate l.length false) = true)
    (h : wpO P l.toArray (plainEnv W L) (fun a' w' => Q' .normal a' w') kl l [] F0 a) : (Code.region id l.toArray true).wp P Q' a W :=
  wp_region_env (E := plainEnv W L) F0 hS kl (KeptBut.refl L W).drew hF hm hs hB h
theorem wp_region_ownp {P : Program} {W : World} {id : Nat} {Q' : Exit → Act → World → Prop} {a : Act} {l : List Oper} (L : List Nat) (F0 : World → Prop) (hS : Stays (plainEnv W L) F0) (hF : F0 { W with drawn := W.drawn + 1 }) (kl ord : List Nat) (hm : P.follows .mixedOrders = true) (hs : Region.noSelect l.toArray = true)
    (hB : (ord.length == l.length && (ord.all (· < l.length) && permO .any l.toArray kl.toArray ord (Array.replicate l.length false))) = true)
    (h : wpO P l.toArray (plainEnv W L) (fun a' w' => Q' .normal a' w') (ord.map fun k => kl.getD k 0) (ord.filterMap fun k => l[k]?) [] F0 a) : (Code.region id l.toArray true).wp P Q' a W :=
  wp_region_envp (E := plainEnv W L) F0 hS kl ord (KeptBut.refl L W).drew hF hm hs hB h
/-- The same, where a call may give up. -/
def dieEnv (W : World) (L : List Nat) (D : List PanicEntry → World → Prop) : Env := { plainEnv W L with die := D }
theorem In.blockD {W : World} {L : List Nat} {D : List PanicEntry → World → Prop} (n : In (dieEnv W L D)) {g : Nat} {o : Obj} (h : W.heap[g]? = some o) (hn : g ∉ L) : n.w.heap[g]? = some o := KeptBut.blk n.hc h hn
theorem keptD_below {W w : World} {D : List PanicEntry → World → Prop} (h : (dieEnv W [] D).C w) : Below W.heap.size W w := KeptBut.below h (Nat.le_refl _) (fun _ h => by cases h)
theorem wp_region_die {P : Program} {W : World} {id : Nat} {Q' : Exit → Act → World → Prop} {a : Act} {l : List Oper} (L : List Nat) (D : List PanicEntry → World → Prop) (F0 : World → Prop) (hS : Stays (dieEnv W L D) F0) (hF : F0 { W with drawn := W.drawn + 1 }) (kl : List Nat)
    (hD : ∀ ch a' w', a'.defers = a.defers → D ch w' → Q' (.panic ch) a' w') (hm : P.follows .mixedOrders = true) (hs : Region.noSelect l.toArray = true)
    (hB : lexO .any l.toArray kl.toArray l.length 0 (Array.replicate l.length false) = true)
    (h : wpO P l.toArray (dieEnv W L D) (fun a' w' => Q' .normal a' w') kl l [] F0 a) : (Code.region id l.toArray true).wp P Q' a W :=
  wp_region_envD (E := dieEnv W L D) F0 hS kl (KeptBut.refl L W).drew hF hD hm hs hB h
/-- Behind W nothing below block B is turned. -/
def fromEnv (W : World) (B : Nat) (hB : B ≤ W.heap.size) : Env where
  C w := Below B W w
  T w w' := Below w.heap.size w w'
  mine k := B ≤ k
  lim := W.heap.size
  go h b := h.trans (b.mono (Nat.le_trans hB h.size))
  new o _ := (Below.refl _ _).alloc (Nat.le_refl _) o
  size b := b.size
  blk _ b _ h := (b.block _ (Array.getElem?_eq_some_iff.1 h).1).trans h
  lo h := h.size
  own h := Nat.le_trans hB h
  free h h1 h2 h3 h4 h5 := h.trans ⟨h1, h2, h3, h4, fun k hk => h5 k (by omega)⟩
  some := ⟨W, Below.refl _ _⟩
theorem In.cellf {W : World} {B : Nat} {hB : B ≤ W.heap.size} (n : In (fromEnv W B hB)) {p : Addr} {v : Value} (h : W.cell? p = some v) (hp : p.block < B) : n.w.cell? p = some v := (Below.cell n.hc hp).trans h
theorem In.blockf {W : World} {B : Nat} {hB : B ≤ W.heap.size} (n : In (fromEnv W B hB)) {g : Nat} {o : Obj} (h : W.heap[g]? = some o) (hg : g < B) : n.w.heap[g]? = some o := (Below.block n.hc g hg).trans h
theorem wp_region_from {P : Program} {W : World} {id : Nat} {Q' : Exit → Act → World → Prop} {a : Act} {l : List Oper} (B : Nat) (hB : B ≤ W.heap.size) (F0 : World → Prop) (hS : Stays (fromEnv W B hB) F0) (hF : F0 { W with drawn := W.drawn + 1 }) (kl : List Nat) (hm : P.follows .mixedOrders = true) (hs : Region.noSelect l.toArray = true)
    (hX : lexO .any l.toArray kl.toArray l.length 0 (Array.replicate l.length false) = true)
    (h : wpO P l.toArray (fromEnv W B hB) (fun a' w' => Q' .normal a' w') kl l [] F0 a) : (Code.region id l.toArray true).wp P Q' a W :=
  wp_region_env (E := fromEnv W B hB) F0 hS kl ⟨rfl, rfl, rfl, Nat.le_refl _, fun _ _ => rfl⟩ hF hm hs hX h

end Go.Proofs.Ytakhjdodljhfmaa.Tx
