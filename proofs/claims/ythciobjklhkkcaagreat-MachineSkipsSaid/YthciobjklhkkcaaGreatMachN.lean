/-
 A range over a function whose rounds all go on, and that writes a machine.
-/
import Derived.RangeFuncNested
import Derived.RangeFuncBound
import Derived.RangeFuncCalls
import Derived.RangeFuncLeaves
import Derived.Shelf.Abstract
import Derived.Shelf.RegionOpen
import Derived.WalkKit
import Derived.OwnWalkIn
import Derived.TacticsInMore
import Derived.LoopNIn
import Derived.LoopIn
import Derived.Test.YthciobjklhkkcaaGreatMachM
namespace Go.Proofs.YthciobjklhkkcaaGreat
open Go.ChangeShapes Go.WideShapes Go.ChangeAt Go.RowKit Go.Shelf
set_option maxHeartbeats 8000000
set_option maxRecDepth 10000
set_option linter.unusedVariables false
set_option linter.unusedSimpArgs false

/-- what a sequence of steps does to the caller's relation -/
structure Goes (α : Type) (P : Program) (n l : Nat) (encs : α → Array Value) (It Kp : World → World → Prop) (xs : List α) (J : List α → World → Prop) : Prop where
 abides : ∀ pre A B, J pre A → It A B → J pre B
 yields : ∀ pre x A, J pre A → (pre ++ [x]) <+: xs → YieldAt Fence.wide n P l (encs x) A fun e W' => e = .returned (.bool true) ∧ J (pre ++ [x]) W' ∧ Kp A W'
theorem wpIn_range9 {α : Type} {P : Program} {g : Operand} {ps : Array Tmp} {assign body : Code} {Q : Exit → Act → World → Prop} {a : Act} {w : World} {n gf : Nat} {lb : Array Value} {encs : α → Array Value}
  (xs : List α) (I : List α → World → Prop) (It Kp : World → World → Prop) (Fin : World → Prop) (slot : Nat) (Wn : α → World → World) (h1 : 1 ≤ n)
  (hg : a.eval g = .func (.func gf) #[] lb) (eg : ∀ args w, (callFunc gf args).run P w = .ok (.enter gf args) w) (hps : ∀ x, (encs x).size = ps.size)
  (hIt : ∀ X Y k, It X Y → k < X.heap.size → w.heap.size ≤ k → k ≤ w.heap.size + 1 → Y.heap[k]? = X.heap[k]?)
  (hI : ∀ pre X Y, I pre X → It X Y → I pre Y)
  (hP : ∀ pre X Y, I pre X → Rest (fun k => k = w.heap.size ∨ k = w.heap.size + 1) X Y → I pre Y)
  (hKt : ∀ X Y Z, Kp X Y → Rest (fun k => k = w.heap.size ∨ k = w.heap.size + 1) Y Z → Kp X Z)
  (hF : ∀ X Y, Fin X → Rest (fun k => k = w.heap.size ∨ k = w.heap.size + 1) X Y → Fin Y)
  (hWn : ∀ x W, Below W.heap.size W (Wn x W))
  (hseq : ∀ (J : List α → World → Prop) (W : World), Below w.heap.size w W → w.heap.size + 1 < W.heap.size → Goes α P (n - 1 - 1) (w.heap.size + 1) encs It Kp xs J → J [] W → CallsIn Fence.wide (n - 1) P gf (#[.func (.yield (w.heap.size + 1)) #[] #[]] ++ lb) W fun e W' => (∃ v, e = .returned v) ∧ J xs W' ∧ Fin W')
  (h0 : I [] w)
  (hassign : ∀ (x : α) (W : World) (K : Act → World → Prop), K ({ tmps := ((ps.zip (encs x)).foldl (fun t (p, v) => t.setIfInBounds p v) a.tmps).setIfInBounds slot (.pointer (some ⟨W.heap.size, 0, none⟩)), defers := [] } : Act) (Wn x W) → assign.wpIn (Fence.wide.inRound (w.heap.size + 1)) (n - 1 - 1) P (Exit.then K (fun _ _ _ => False)) { tmps := (ps.zip (encs x)).foldl (fun t (p, v) => t.setIfInBounds p v) a.tmps, defers := [] } W)
  (hbody : ∀ (pre : List α) (x : α) (W W2 : World), I pre W → (pre ++ [x]) <+: xs → w.heap.size + 1 < W.heap.size → Rest (fun k => k = w.heap.size + 1) (Wn x W) W2 → body.wpIn (Fence.wide.inRound (w.heap.size + 1)) (n - 1 - 1) P (fun e a3 W3 => e = .normal ∧ a3.defers = [] ∧ I (pre ++ [x]) W3 ∧ Kp W W3 ∧ (∀ k, k = w.heap.size ∨ k = w.heap.size + 1 → W3.heap[k]? = W2.heap[k]?)) ({ tmps := ((ps.zip (encs x)).foldl (fun t (p, v) => t.setIfInBounds p v) a.tmps).setIfInBounds slot (.pointer (some ⟨W.heap.size, 0, none⟩)), defers := [] } : Act) W2)
  (hdone : ∀ (W : World), I xs W → Fin W → W.heap[w.heap.size]? = some (.deferred (some [])) → Q .normal { a with defers := { target := .collected w.heap.size, args := #[] } :: a.defers } W) :
  (Code.rangeFunc g ps assign body).wpIn Fence.wide n P Q a w := by
 refine wpIn_rangeFunc ?_
 intro fn hfn
 show ∃ l mark w₁ d w₁' f args w₂, (Instr.enterLoop fn a.tmps ps assign body none).run P w = _ ∧ _
 obtain ⟨rec, hrec⟩ : ∃ rec : LoopState → Option Code → Loop, rec = fun st pe => { state := st, pending := pe, fn, tmps := a.tmps, params := ps, assign, body, defers := w.heap.size } := ⟨_, rfl⟩
 obtain ⟨W1, hW1⟩ : ∃ W1, (w.alloc (.deferred (some []))).alloc (.loop (rec .ready none)) = W1 := ⟨_, rfl⟩
 have hL1 : W1.heap[w.heap.size + 1]? = some (.loop (rec .ready none)) := by
  rw [← hW1]; have := World.alloc_heap_new (w.alloc (.deferred (some []))) (.loop (rec .ready none)); rwa [World.size_alloc] at this
 have hK1 : W1.heap[w.heap.size]? = some (.deferred (some [])) := by
  rw [← hW1]; exact (Below.heap_alloc _ _ _ (by simp)).trans (World.alloc_heap_new w _)
 have hb1 : Below w.heap.size w W1 := by rw [← hW1]; exact ((Below.refl _ w).alloc (Nat.le_refl _) _).alloc (by simp) _
 have hI1 : I [] W1 := hP _ _ _ h0 (Rest.of hb1)
 have hs1 : w.heap.size + 1 < W1.heap.size := (Array.getElem?_eq_some_iff.1 hL1).1
 refine ⟨w.heap.size + 1, [{ target := .collected w.heap.size, args := #[] }], W1, { target := .fn (.func gf) lb, args := #[.func (.yield (w.heap.size + 1)) #[] #[]] }, W1, gf, #[.func (.yield (w.heap.size + 1)) #[] #[]] ++ lb, W1, ?_, ?_, ?_, ?_, fun _ => h1, ?_⟩
 ·rw [← hW1, hrec]; exact run_enterLoop_outer _ _ _ _ _
 ·simp only [resolve, hg]
  simp [go_sem]
 ·intro f' hf'; trivial
 ·simp [invoke, go_sem, eg]
 ·refine (hseq (fun pre W => I pre W ∧ W.heap[w.heap.size + 1]? = some (.loop (rec .ready none)) ∧ W.heap[w.heap.size]? = some (.deferred (some []))) W1 hb1 hs1 ⟨?_, ?_⟩ ⟨hI1, hL1, hK1⟩).mono ?_
  ·rintro pre X Y ⟨hi, hl, hk⟩ hit
   have hlx := (Array.getElem?_eq_some_iff.1 hl).1
   exact ⟨hI _ _ _ hi hit, (hIt _ _ _ hit hlx (by omega) (Nat.le_refl _)).trans hl, (hIt _ _ _ hit (by omega) (Nat.le_refl _) (by omega)).trans hk⟩
  ·rintro pre x W ⟨hi, hl, hk⟩ hpre
   have hlt : w.heap.size + 1 < W.heap.size := (Array.getElem?_eq_some_iff.1 hl).1
   have hy := run_yield (P := P) (args := encs x) hl (by rw [hrec]; exact hps x)
   rw [hrec] at hy
   refine ⟨fn, _, assign, body, hy, roundIn_of_wpIn hfn (hassign x W _ ?_)⟩
   clear hy
   have hl' : (Wn x W).heap[w.heap.size + 1]? = some (.loop (rec .ready none)) := ((hWn x W).block _ hlt).trans hl
   have hk' : (Wn x W).heap[w.heap.size]? = some (.deferred (some [])) := ((hWn x W).block _ (by omega)).trans hk
   have hlt' : w.heap.size + 1 < (Wn x W).heap.size := (Array.getElem?_eq_some_iff.1 hl').1
   refine ⟨_, run_beginRound hl' (by rw [hrec]), ?_⟩
   have hl2 : ((Wn x W).putObj (w.heap.size + 1) (.loop { rec .ready none with state := .busy })).heap[w.heap.size + 1]? = some (.loop { rec .ready none with state := .busy }) := World.putObj_heap_same hlt'
   have hk2 : ((Wn x W).putObj (w.heap.size + 1) (.loop { rec .ready none with state := .busy })).heap[w.heap.size]? = some (.deferred (some [])) := (World.putObj_heap_other (by omega)).trans hk'
   have hr2 : Rest (fun k => k = w.heap.size + 1) (Wn x W) ((Wn x W).putObj (w.heap.size + 1) (.loop { rec .ready none with state := .busy })) := ⟨rfl, rfl, rfl, by simp, fun k _ hx => World.putObj_heap_other hx⟩
   generalize (Wn x W).putObj (w.heap.size + 1) (.loop { rec .ready none with state := .busy }) = W2 at *
   refine wpIn_mono (hbody pre x W W2 hi hpre hlt hr2) ?_
   rintro e a3 W3 ⟨rfl, hd3, hi3, hkp3, hsame⟩
   have hl3 : W3.heap[w.heap.size + 1]? = some (.loop { rec .ready none with state := .busy }) := (hsame _ (.inr rfl)).trans hl2
   have hk3 : W3.heap[w.heap.size]? = some (.deferred (some [])) := (hsame _ (.inl rfl)).trans hk2
   have hr := run_endRound (P := P) none hl3
   rw [hrec] at hr
   have hput : ∀ o : Obj, Rest (fun k => k = w.heap.size ∨ k = w.heap.size + 1) W3 (W3.putObj (w.heap.size + 1) o) := fun o => ⟨rfl, rfl, rfl, by simp, fun k _ hx => World.putObj_heap_other (fun e => hx (.inr e))⟩
   refine ⟨_, _, hr, rfl, ⟨hP _ _ _ hi3 (hput _), ?_, (World.putObj_heap_other (by omega)).trans hk3⟩, hKt _ _ _ hkp3 (hput _)⟩
   rw [hrec]
   exact World.putObj_heap_same (Array.getElem?_eq_some_iff.1 hl3).1
  ·rintro e W2 ⟨⟨v, rfl⟩, ⟨hi, hl, hk⟩, hf⟩
   have hend := run_endLoop (P := P) hl (by rw [hrec]; simp)
   rw [hrec] at hend
   exact ⟨none, _, hend, hdone _ (hP _ _ _ hi ⟨rfl, rfl, rfl, by simp, fun k _ hx => World.putObj_heap_other (fun e => hx (.inr e))⟩) (hF _ _ hf ⟨rfl, rfl, rfl, by simp, fun k _ hx => World.putObj_heap_other (fun e => hx (.inr e))⟩) ((World.putObj_heap_other (by omega)).trans hk)⟩
end Go.Proofs.YthciobjklhkkcaaGreat
