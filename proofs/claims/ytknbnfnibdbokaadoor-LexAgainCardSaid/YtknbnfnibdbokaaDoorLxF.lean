/-
  What lex's words and token return.
-/
import Derived.Maps.OwnOps
import Derived.Maps.OwnSet
import Derived.Test.YtknbnfnibdbokaaDoorLxE
namespace Go.Proofs.YtknbnfnibdbokaaDoor
open Go.ChangeShapes Go.WideShapes Go.ChangeAt Go.RowKit Go.WideMaps Go.Maps
set_option linter.unusedVariables false
set_option linter.unusedSimpArgs false

def Lx.wordV : Array Value := #[.string ⟨#[102, 110]⟩, .string ⟨#[112, 117, 98]⟩, .string ⟨#[115, 101, 99]⟩, .string ⟨#[111, 117, 116]⟩, .string ⟨#[108, 101, 116]⟩, .string ⟨#[118, 97, 114]⟩, .string ⟨#[105, 102]⟩, .string ⟨#[101, 108, 115, 101]⟩, .string ⟨#[102, 111, 114]⟩, .string ⟨#[109, 97, 120]⟩, .string ⟨#[114, 101, 116, 117, 114, 110]⟩, .string ⟨#[117, 51, 50]⟩, .string ⟨#[117, 56]⟩, .string ⟨#[109, 97, 115, 107]⟩, .string ⟨#[109, 117, 108, 104, 105]⟩, .string ⟨#[99, 97, 114, 114, 121]⟩, .string ⟨#[115, 101, 108, 101, 99, 116]⟩, .string ⟨#[119, 111, 114, 100]⟩, .string ⟨#[114, 111, 114]⟩]
theorem Lx.wordV_get : ∀ k, k < 19 → Lx.wordV[k]? = (Lx.words[k]?).map fun x => .string (Lx.S x) := by
  intro k hk
  rcases (by omega : k = 0 ∨ k = 1 ∨ k = 2 ∨ k = 3 ∨ k = 4 ∨ k = 5 ∨ k = 6 ∨ k = 7 ∨ k = 8 ∨ k = 9 ∨ k = 10 ∨ k = 11 ∨ k = 12 ∨ k = 13 ∨ k = 14 ∨ k = 15 ∨ k = 16 ∨ k = 17 ∨ k = 18) with rfl | rfl | rfl | rfl | rfl | rfl | rfl | rfl | rfl | rfl | rfl | rfl | rfl | rfl | rfl | rfl | rfl | rfl | rfl <;> rfl
theorem Lx.words_len : Lx.words.length = 19 := by decide
theorem Lx.words_short : ∀ x ∈ Lx.words, x.length ≤ 40 := by decide
theorem lawS : Keyed Tryd.prog 9 := string_keyed Tryd.underlying9
theorem zeroI (w : World) : (zeroValue 3).run Tryd.prog w = .ok (.int .i64 0) w := by kernel_rfl
abbrev Lx.u3 : DataW Unit := .lit (.int .i64 3)
/-- the first words, as a map -/
def Lx.known (k : Nat) : DataW Unit := setOf Lx.u3 ((Lx.words.take k).map fun t => .string t)
/-- block b is the map of the words -/
def KnownAt (W : World) (b : Nat) : Prop := W.ownsMap Tryd.prog 9 (plainElem (H := Unit) Tryd.prog 3) b 19 (Lx.known 19)
theorem KnownAt.kept {W W' : World} {b : Nat} (h : KnownAt W b) (hb : Below W.heap.size W W') : KnownAt W' b :=
  World.ownsMap.kept (row := none) h ⟨hb.os, hb.tape, hb.output, hb.size, fun j hj _ => hb.block j hj⟩ (by simp)
theorem Lx.keyed (L : List (List UInt8)) : ∀ x ∈ L.map (fun t => Lit.string t), WideAt.IsKeyLit x := by
  intro x hx
  obtain ⟨t, _, rfl⟩ := List.mem_map.1 hx
  exact trivial
theorem Lx.any_key (L : List (List UInt8)) (t : List UInt8) : (L.map (fun t => Lit.string t)).any (fun x => x.sameKey (.string t)) = L.contains t := by
  induction L with
  | nil => rfl
  | cons x L ih =>
    rw [List.map_cons, List.any_cons, ih, List.contains_cons]
    congr 1
    by_cases h : t = x
    · subst h; rw [WideAt.sameKey_self (show WideAt.IsKeyLit (Lit.string t) from trivial)]; simp
    · rw [sameKey_ne (fun e => h (by injection e with e; exact e.symm))]; simp [h]
theorem Lx.known_step (k : Nat) (x : List UInt8) (h : Lx.words[k]? = some x) : (Lx.known k).put (.string x) Lx.u3 = Lx.known (k + 1) := by
  unfold Lx.known
  rw [List.take_add_one, h, List.map_append]
  exact (setOf_snoc _ _ _).symm
theorem Lx.known_has (t : List UInt8) : Maps.has (Lx.known 19) (.string t) = Lx.words.contains t := by
  unfold Lx.known
  rw [has_setOf _ _ _ (Lx.keyed _), Lx.any_key, List.take_of_length_le (by rw [Lx.words_len]; exact Nat.le_refl _)]
theorem Lx.known_fold (t : List UInt8) (z : DataW Unit) : ∀ (L : List (List UInt8)) (m : DataW Unit), IsMap m → ((L.map fun t => Lit.string t).foldl (fun m x => m.put x Lx.u3) m).atKey (.string t) z = if L.contains t then Lx.u3 else m.atKey (.string t) z := by
  intro L
  induction L with
  | nil => intro m hm; rfl
  | cons x L ih =>
    intro m hm
    rw [List.map_cons, List.foldl_cons, ih _ (hm.put _ _), List.contains_cons]
    by_cases h : t = x
    · subst h
      rw [atKey_put_same hm (show WideAt.IsKeyLit (Lit.string t) from trivial)]; simp
    · rw [atKey_put_other (fun e => h (by injection e))]; simp [h]
theorem Lx.known_at (t : List UInt8) (z : DataW Unit) (h : Lx.words.contains t = true) : (Lx.known 19).atKey (.string t) z = Lx.u3 := by
  unfold Lx.known setOf
  rw [Lx.known_fold t z _ _ isMap_empty, List.take_of_length_le (by rw [Lx.words_len]; exact Nat.le_refl _), if_pos h]
set_option maxHeartbeats 4000000 in
set_option maxRecDepth 100000 in
theorem words_any (w : World) :
    Calls Tryd.prog 11 #[] w fun e w' => e = .returned (.map (some w.heap.size)) ∧ KnownAt w' w.heap.size ∧ Below w.heap.size w w' := by
  have hmm := @run_makeMap Tryd.prog
  go_enter Tryd.func11, Tryd.ntmps11
  go_wp2
  go_loopw [6] (fun K wr => ∃ k : Nat, k ≤ 19 ∧ K = .int .i64 (k : Int) ∧ wr.ownsMap Tryd.prog 9 (plainElem (H := Unit) Tryd.prog 3) w.heap.size k (Lx.known k) ∧ Below w.heap.size w wr) (fun K _ => 19 - (intOf K).toNat)
  case atStart => exact ⟨0, Nat.zero_le _, rfl, World.ownsMap_made _ _ _ _, (Below.refl _ _).alloc (Nat.le_refl _) _⟩
  case round =>
    obtain ⟨k, hk, rfl, hown, hB⟩ := hrel
    by_cases hlt : k < 19
    · have hlt' : (k : Int) < 19 := by omega
      obtain ⟨x, hx⟩ : ∃ x, Lx.words[k]? = some x := ⟨Lx.words[k]'(by rw [Lx.words_len]; exact hlt), List.getElem?_eq_getElem _⟩
      have hv : Lx.wordV[k]? = some (.string (Lx.S x)) := by rw [Lx.wordV_get k hlt, hx]; rfl
      have E : ∀ w, (Instr.index 50 (.agg #[.string ⟨#[102, 110]⟩, .string ⟨#[112, 117, 98]⟩, .string ⟨#[115, 101, 99]⟩, .string ⟨#[111, 117, 116]⟩, .string ⟨#[108, 101, 116]⟩, .string ⟨#[118, 97, 114]⟩, .string ⟨#[105, 102]⟩, .string ⟨#[101, 108, 115, 101]⟩, .string ⟨#[102, 111, 114]⟩, .string ⟨#[109, 97, 120]⟩, .string ⟨#[114, 101, 116, 117, 114, 110]⟩, .string ⟨#[117, 51, 50]⟩, .string ⟨#[117, 56]⟩, .string ⟨#[109, 97, 115, 107]⟩, .string ⟨#[109, 117, 108, 104, 105]⟩, .string ⟨#[99, 97, 114, 114, 121]⟩, .string ⟨#[115, 101, 108, 101, 99, 116]⟩, .string ⟨#[119, 111, 114, 100]⟩, .string ⟨#[114, 111, 114]⟩]) (.int .i64 (k : Int))).run Tryd.prog w = .ok (.string (Lx.S x)) w :=
        run_index_arr (P := Tryd.prog) (n := 19) Tryd.underlying50 Tryd.sizeOf9 Tryd.isAgg9 hlt hv
      have hxl : x.length ≤ 40 := Lx.words_short x (List.mem_of_getElem? hx)
      have hkey : keyOf Tryd.prog 9 (.string (Lx.S x)) = some (.string x) := keyOf_string_mk Tryd.underlying9 (by rw [Lx.S_size]; unfold maxLen; omega)
      have HX := Lib.hid hx
      clear hx hv hxl
      go_wp2_with (first
        | (at_mapUpdate; refine wpList_mapUpdate_own _ rfl _ _ _ 41 rfl 9 3 lawS Tryd.underlying41 _ w.heap.size k _ rfl hown (by unfold maxLen; omega) _ _ _ rfl rfl hkey _ [] (plainElem_int Tryd.underlying3 (by decide)) ?_))
      intro w1 hown1 hgrow1
      have R1 := (Lx.known_step k x HX.out) ▸ hown1
      have R2 := hB.grown hgrow1 hB.size (fun j hj => by cases hj; exact Nat.le_refl _)
      clear hown1 hgrow1 hown hkey E HX
      go_wp2
      go_roundw
      case rel => exact ⟨k + 1, by omega, by go_num, R1, R2⟩
      case measure => simp [intOf]; omega
    · have hge : ¬ (k : Int) < 19 := by omega
      obtain rfl : k = 19 := by omega
      go_wp2
      go_ret
      exact ⟨rfl, hown, hB⟩
end Go.Proofs.YtknbnfnibdbokaaDoor
