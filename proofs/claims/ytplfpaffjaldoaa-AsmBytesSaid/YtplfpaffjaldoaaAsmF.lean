/-
  Package asm: what near, unable and places return.
-/
import Derived.Test.YtplfpaffjaldoaaAsmE
namespace Go.Proofs.Ytplfpaffjaldoaa
open Go.ChangeShapes Go.WideShapes Go.ChangeAt Go.RowKit
set_option linter.unusedVariables false

theorem reach_24 (w : World) : Calls Try.prog 14 #[.int .i64 24, .bool false] w fun e w' => e = .returned (.tuple #[.int .i64 (-2048), .int .i64 2046]) ∧ w = w' := reach_any 24 false w
set_option maxHeartbeats 4000000 in
theorem near_any (w : World) : Calls Try.prog 56 #[] w fun e w' => e = .returned (.int .i64 1025) ∧ w = w' := by
  go_enter Try.func56, Try.ntmps56
  go_wp2_with (go_at_call 14; refine (reach_24 _).mono ?_; rintro e w1 ⟨rfl, rfl⟩)
  go_ret
  exact ⟨rfl, rfl⟩
/-- what lies between a branch and its label -/
structure As.Way where
  item : Int
  behind : Int
  before : Int
  spare : Int
def wayC (x : As.Way) : List Value := [.int .i64 x.item, .int .i64 x.behind, .int .i64 x.before, .int .i64 x.spare]
theorem wayC_len (x : As.Way) : (wayC x).length = 4 := rfl
abbrev WayAt (W : World) (a : Addr) (item behind before spare : Int) : Prop :=
  W.cell? a = some (.int .i64 item) ∧ W.cell? ⟨(a).block, (a).off + 1, none⟩ = some (.int .i64 behind) ∧ W.cell? ⟨(a).block, (a).off + 2, none⟩ = some (.int .i64 before) ∧ W.cell? ⟨(a).block, (a).off + 3, none⟩ = some (.int .i64 spare)
theorem WayAt.of {W : World} {a : Addr} {item behind before spare : Int} (h : OnC W a (wayC ⟨item, behind, before, spare⟩)) : WayAt W a item behind before spare :=
  ⟨by have h0 := h 0 _ rfl; rw [add_zero'] at h0; exact h0, h 1 _ rfl, h 2 _ rfl, h 3 _ rfl⟩
def natC (k : Nat) : List Value := [.int .i64 (k : Int)]
/-- which do not reach, among the first ones -/
def As.una (ws : List As.Way) (k : Nat) : List Nat := (List.range k).filter fun j => match ws[j]? with | some x => decide (x.spare < 0) | none => false
theorem una_succ (ws : List As.Way) (k : Nat) (hk : k < ws.length) : As.una ws (k + 1) = As.una ws k ++ (if ws[k].spare < 0 then [k] else []) := by
  unfold As.una
  rw [List.range_succ, List.filter_append]
  congr 1
  by_cases h : ws[k].spare < 0
  · rw [if_pos h]; simp [List.filter, List.getElem?_eq_getElem hk, h]
  · rw [if_neg h]; simp [List.filter, List.getElem?_eq_getElem hk, h]
theorem una_len (ws : List As.Way) (k : Nat) : (As.una ws k).length ≤ k := by
  unfold As.una
  have := List.length_filter_le (fun j => match ws[j]? with | some x => decide (x.spare < 0) | none => false) (List.range k)
  simpa using this
set_option maxHeartbeats 8000000 in
set_option maxRecDepth 100000 in
theorem unable_any (pl : Option Addr) (cl n : Nat) (ws : List As.Way) (w : World) (hn : Hid (ws.length = n)) (hb : n ≤ 1000000) (hL : Hid (SliceC wayC 4 w (.slice pl n cl) ws)) :
    Calls Try.prog 34 #[.slice pl n cl] w fun e w' => ∃ v, e = .returned v ∧ w'.ownsRow w.heap.size 3 1 v (As.una ws n).length ((As.una ws n).flatMap natC) ∧ Below w.heap.size w w' := by
  obtain ⟨i0, hi, hz0, hz1, hz2⟩ := info_parts Try.infoInt'
  go_enter Try.func34, Try.ntmps34
  go_wp2
  go_loopw [3, 8] (fun A K wr => ∃ k : Nat, K = .int .i64 (k : Int) ∧ k ≤ n ∧ wr.ownsRow w.heap.size 3 1 A (As.una ws k).length ((As.una ws k).flatMap natC) ∧ Below w.heap.size w wr) (fun _ K _ => n - (intOf K).toNat)
  case atStart => exact ⟨0, rfl, Nat.zero_le _, World.ownsRow_nil _ _ _ _, Below.refl _ _⟩
  case round =>
    obtain ⟨k, rfl, hk, hrow, hB⟩ := hrel
    by_cases hlt : k < n
    · have hkL : k < ws.length := by rw [hn.out]; exact hlt
      have hlt' : (k : Int) < (n : Int) := by omega
      have hk0 : (0 : Int) ≤ (k : Int) := by omega
      have hus := una_succ ws k hkL
      have hul := una_len ws k
      obtain ⟨p', c', e', hat⟩ := hL.out.kept hB
      obtain ⟨a, hpa, hOn⟩ := hat k hkL
      injection e' with ep en ec
      rw [hpa] at ep
      subst ep
      rcases hx : ws[k] with ⟨item, behind, before, spare⟩
      rw [hx] at hOn hus
      dsimp only at hus
      obtain ⟨x0, x1, x2, x3⟩ := WayAt.of hOn
      have HUS := Lib.hid hus
      clear hOn hat hpa ec en hx hus
      by_cases hs : spare < 0
      · go_wp2_with (at_builtin; refine wpList_append_own _ rfl _ _ 46 rfl w.heap.size 3 i0 (.int .i64 0) 1 8 Try.underlying46 hi hz0 hz1 hz2 rfl (by decide) _ _ _ rfl ((hrow.alloc _).alloc _) ⟨wr.heap.size + 1, 0, none⟩ 1 1 [.int .i64 (k : Int)] rfl rfl (by have h := cell_one_new (wr.alloc (.cells #[.int .i64 item, .int .i64 behind, .int .i64 before, .int .i64 spare] 82)) (.int .i64 (k : Int)) 3; rw [World.size_alloc] at h; exact h) (by simp [Value.oneCell']) (by unfold maxLen; omega) (by omega) (by have := hB.size; simp; omega) ?_; intro v' w3 hown' hgrow3 hnil3)
        have e1 : As.una ws (k + 1) = As.una ws k ++ [k] := by rw [HUS.out, if_pos hs]
        refine ⟨⟨k + 1, by simp, by omega, ?_, ((hB.alloc hB.size _).alloc (by have := hB.size; simp; omega) _).grown hgrow3 (by have := hB.size; simp; omega) (own_ge hrow)⟩, by simp [intOf]; omega⟩
        rw [e1, List.length_append, List.flatMap_append]
        exact hown'
      · have e1 : As.una ws (k + 1) = As.una ws k := by rw [HUS.out, if_neg hs, List.append_nil]
        have E1 := Lib.hid e1
        clear e1
        go_wp2
        exact ⟨⟨k + 1, by simp, by omega, by rw [E1.out]; exact hrow.alloc _, hB.alloc hB.size _⟩, by simp [intOf]; omega⟩
    · have hge : ¬ (k : Int) < (n : Int) := by omega
      obtain rfl : k = n := by omega
      go_wp2
      go_ret
      exact ⟨_, rfl, hrow, hB⟩
end Go.Proofs.Ytplfpaffjaldoaa
