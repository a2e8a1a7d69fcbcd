/-
  Package asm: the bytes are the items' instructions, one behind the other; and stage 4's example is told.
-/
import Derived.Test.YtplfpaffjaldoaaAsmT
import Derived.Test.YtplfpaffjaldoaaDecodeH2
namespace Go.Proofs.Ytplfpaffjaldoaa
open Go.ChangeShapes Go.WideShapes Go.ChangeAt Go.RowKit
set_option linter.unusedVariables false
set_option linter.unusedSimpArgs false

/-- the items' instructions -/
def As.insL (L : List As.It) (at' : List Int) (wl : List Bool) (f : Int → Option Nat) (k : Nat) : List Th.Ins := (List.range k).flatMap fun j => match L[j]? with | some x => if x.kind == 1 then [] else [As.insAt at' wl f j x] | none => []
section
variable (L : List As.It) (at' : List Int) (wl : List Bool) (f : Int → Option Nat)
theorem insL_succ (k : Nat) (hk : k < L.length) : As.insL L at' wl f (k + 1) = As.insL L at' wl f k ++ (if L[k].kind == 1 then [] else [As.insAt at' wl f k L[k]]) := by
  unfold As.insL
  rw [List.range_succ, List.flatMap_append, List.flatMap_cons, List.flatMap_nil, List.append_nil, List.getElem?_eq_getElem hk]
theorem arr_app (l m : List UInt8) : (⟨(l ++ m).toArray⟩ : ByteArray) = ⟨l.toArray⟩ ++ ⟨m.toArray⟩ := by
  apply ByteArray.ext
  rw [ByteArray.data_append]
  simp
theorem arr_data (b : ByteArray) : (⟨b.data.toList.toArray⟩ : ByteArray) = b := by
  apply ByteArray.ext
  simp
theorem byt_enc (k : Nat) (hk : k ≤ L.length) : (⟨(As.byt L at' wl f k).toArray⟩ : ByteArray) = De.encAll (As.insL L at' wl f k) := by
  induction k with
  | zero => rfl
  | succ k ih =>
    rw [byt_succ L at' wl f k (by omega), insL_succ L at' wl f k (by omega), arr_app, ih (by omega)]
    split
    · rw [List.append_nil]; exact De.app_nil _
    · rw [arr_data, De.encAll_app]
theorem insL_le (k m : Nat) (hk : k + m ≤ L.length) : ∃ R, As.insL L at' wl f (k + m) = As.insL L at' wl f k ++ R := by
  induction m with
  | zero => exact ⟨[], by simp⟩
  | succ m ih =>
    obtain ⟨R, hR⟩ := ih (by omega)
    exact ⟨_, by rw [← Nat.add_assoc, insL_succ L at' wl f (k + m) (by omega), hR, List.append_assoc]⟩
theorem insL_at (k n : Nat) (hk : k < n) (hn : n ≤ L.length) (h1 : L[k].kind ≠ 1) : (As.insL L at' wl f n)[(As.insL L at' wl f k).length]? = some (As.insAt at' wl f k L[k]) := by
  obtain ⟨R, hR⟩ := insL_le L at' wl f (k + 1) (n - (k + 1)) (by omega)
  rw [show k + 1 + (n - (k + 1)) = n by omega, insL_succ L at' wl f k (by omega), if_neg (by simpa using h1), List.append_assoc] at hR
  rw [hR, List.getElem?_append_right (Nat.le_refl _), Nat.sub_self]
  rfl
end
noncomputable def As.codeI (L : List As.It) (base : Int) : List Th.Ins := As.insL L (As.atL L base) (As.wl L) (As.fn L) L.length
theorem codeI_good {L : List As.It} {base : Int} (hc : As.check L base = 0) (hf : As.findE L = 0) (hn : L.length ≤ 100000) : De.good (As.codeI L base) := by
  intro i hi
  unfold As.codeI As.insL at hi
  rw [List.mem_flatMap] at hi
  obtain ⟨j, hj, hij⟩ := hi
  have hjL : j < L.length := List.mem_range.1 hj
  rw [List.getElem?_eq_getElem hjL] at hij
  dsimp only at hij
  split at hij
  · cases hij
  · rename_i hk
    rw [List.mem_singleton] at hij
    subst hij
    exact ok_of hc hf hn j hjL (by simpa using hk)
theorem code_enc (L : List As.It) (base : Int) : (⟨(As.code L base).toArray⟩ : ByteArray) = De.encAll (As.codeI L base) := byt_enc L _ _ _ _ (Nat.le_refl _)
/-- the document's example -/
def As.ex : List As.It := [⟨1, 7, ⟨0, 0, 0, 0, 0, 0, 0, false⟩⟩, ⟨2, 7, ⟨24, 0, 0, 0, 0, 0, 0, false⟩⟩]
theorem ex_check : As.check As.ex 0 = 0 := by decide
theorem ex_find : As.findE As.ex = 0 := by decide
theorem ex_wl : As.wl As.ex = [false, false] := by
  have g := good_of ex_check ex_find
  have hcl : As.ClosedI As.ex (As.fn As.ex) 0 [] := by
    intro i hi hk _ t ht
    have hi2 : i < 2 := hi
    rcases (by omega : i = 0 ∨ i = 1) with rfl | rfl
    · exact absurd (show (1 : Int) = 2 from hk) (by decide)
    · have : t = 0 := by
        have h0 : As.fn As.ex 7 = some 0 := by decide
        have h1 : As.fn As.ex 7 = some t := ht
        rw [h0] at h1
        exact (Option.some.inj h1).symm
      subst this
      exact ⟨show Th.reachLo 24 false ≤ As.dist As.ex [] 0 1 0 by decide, show As.dist As.ex [] 0 1 0 ≤ Th.reachHi 24 false by decide⟩
  have hf : ∀ i, As.wd (As.wl As.ex) i = false := fun i => by
    cases h : As.wd (As.wl As.ex) i
    · rfl
    · have := As.wide_least g 0 [] hcl i h
      exact absurd this (by simp [As.wd])
  have hl : (As.wl As.ex).length = 2 := As.wideL_len _ _
  match h : As.wl As.ex, hl with
  | [a, b], _ =>
    have h0 := hf 0
    have h1 := hf 1
    rw [h] at h0 h1
    have e0 : a = false := h0
    have e1 : b = false := h1
    rw [e0, e1]
theorem ex_code : As.code As.ex 0 = [254, 231] := by
  unfold As.code As.atL
  rw [ex_wl]
  decide +kernel
theorem ex_plcs : As.plcs As.ex 0 = [⟨7, 0⟩] := by
  unfold As.plcs As.atL
  rw [ex_wl]
  rfl
theorem ex_all : ¬ (262144 : Int) < As.allLen As.ex := by decide
theorem ex_wf : As.wf As.ex := by
  intro k hk
  have h2 : k < 2 := hk
  rcases (by omega : k = 0 ∨ k = 1) with rfl | rfl <;> exact (show (Lit.int .i64 7).wf = true by decide)
theorem asm_ex (a : Addr) (c : Nat) (w : World) (h : SliceC itC 10 w (.slice (some a) 2 c) As.ex) :
    Calls Try.prog 7 #[.slice (some a) 2 c, .int .i64 0] w fun e w' => ∃ p c', e = .returned (.tuple #[.string ⟨#[254, 231]⟩, .slice (some p) 1 c', .int .i64 0]) ∧ w'.cell? p = some (.int .i64 7) ∧ w'.cell? ⟨p.block, p.off + 1, none⟩ = some (.int .i64 0) ∧ Below w.heap.size w w' := by
  refine (asm_ok (some a) c 2 As.ex 0 _ w (Lib.hid rfl) (by decide) (Lib.hid h) (Lib.hid ex_wf) (Lib.hid ex_check) (Lib.hid ex_find) (Lib.hid rfl) ex_all [254, 231] (Lib.hid ex_code)).mono ?_
  rintro e w' ⟨v, rfl, hs, hb⟩
  rw [ex_plcs] at hs
  obtain ⟨p, c', rfl, hat⟩ := hs
  obtain ⟨p', rfl, hOn⟩ := hat 0 (by decide)
  have h0 := hOn 0 (.int .i64 7) rfl
  have h1 := hOn 1 (.int .i64 0) rfl
  rw [Nat.zero_mul, add_zero'] at h0 h1
  rw [add_zero'] at h0
  exact ⟨p', c', rfl, h0, h1, hb⟩
theorem ex_slice (w : World) : SliceC itC 10 (w.alloc (.cells #[.int .i64 1, .int .i64 7, .int .i64 0, .int .i64 0, .int .i64 0, .int .i64 0, .int .i64 0, .int .i64 0, .int .i64 0, .bool false, .int .i64 2, .int .i64 7, .int .i64 24, .int .i64 0, .int .i64 0, .int .i64 0, .int .i64 0, .int .i64 0, .int .i64 0, .bool false] 41)) (.slice (some ⟨w.heap.size, 0, none⟩) 2 2) As.ex := by
  refine ⟨some ⟨w.heap.size, 0, none⟩, 2, rfl, fun k hk => ⟨_, rfl, fun j u hj => ?_⟩⟩
  have h1 := flatC_get itC 10 itC_len As.ex k hk j u hj
  rw [Go.Deep.add_add, addr_mul]
  simp only [World.cell?, heap_alloc_new]
  rw [if_neg (by decide)]
  rw [← Array.getElem?_toList]
  exact h1
set_option maxHeartbeats 4000000 in
set_option maxRecDepth 100000 in
theorem lives4_any (w : World) : Calls Try.prog 10 #[] w fun e w' => e = .returned (.bool true) ∧ Below w.heap.size w w' := by
  go_enter Try.func10, Try.ntmps10
  go_wp2_with (go_at_call 7; refine (asm_ex _ _ _ (ex_slice w)).mono ?_; rintro e w1 ⟨p, c', rfl, x0, x1, hb1⟩; have HB := Lib.hid (below_on ((Below.refl w.heap.size w).alloc (Nat.le_refl _) _) hb1 (by simp)); clear hb1)
  go_ret
  exact ⟨rfl, HB.out⟩
end Go.Proofs.Ytplfpaffjaldoaa
