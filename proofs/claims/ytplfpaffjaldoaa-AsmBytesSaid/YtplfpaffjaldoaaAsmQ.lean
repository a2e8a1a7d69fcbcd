/-
  What slices.Repeat returns, as package asm calls it: so many times true.
-/
import Derived.Shelf.Bits.Mul64
import Derived.Laws.CopyOwn
import Derived.Deep.RegionLaw
import Derived.Laws.CopyRow
import Derived.Test.YtplfpaffjaldoaaAsmZ
namespace Go.Proofs.Ytplfpaffjaldoaa
open Go.ChangeShapes Go.WideShapes Go.ChangeAt Go.RowKit
set_option linter.unusedVariables false
set_option linter.unusedSimpArgs false

def mulRen : Go.Shelf.Ren := ⟨fun | 212 => 33 | 263 => 54 | 264 => 55 | n => n, fun | 46 => 77 | 51 => 108 | 146 => 109 | 53 => 111 | 148 => 112 | n => n, fun | n => n⟩
theorem mulLays : Go.Proofs.Lays.n212 Try.prog mulRen := {
  mixed := by kernel_rfl
  f212 := Try.func33.trans (congrArg some (by kernel_rfl))
  f263 := Try.func54.trans (congrArg some (by kernel_rfl))
  f264 := Try.func55.trans (congrArg some (by kernel_rfl))
  t46 := Try.underlying77
  a46 := Try.isAgg77
  z46 := Try.sizeOf77
  v46 := Try.zeroValue77
  t51 := Try.underlying108
  a51 := Try.isAgg108
  z51 := Try.sizeOf108
  v51 := Try.zeroValue108
  t53 := Try.underlying111
  a53 := Try.isAgg111
  z53 := Try.sizeOf111
  v53 := Try.zeroValue111
  t146 := Try.underlying109
  a146 := Try.isAgg109
  z146 := Try.sizeOf109
  v146 := Try.zeroValue109
  t148 := Try.underlying112
  a148 := Try.isAgg112
  z148 := Try.sizeOf112
  v148 := Try.zeroValue112 }
theorem mul_one' (n : Nat) (hn : n ≤ 1000000) (w : World) :
    Calls Try.prog 33 #[.int .u64 1, .int .u64 (n : Int)] w fun e w' => e = .returned (.tuple #[.int .u64 0, .int .u64 (n : Int)]) ∧ w = w' := by
  have h := Any.bits_Mul mulLays 1 n (by decide) (by omega) w
  rw [Nat.one_mul, Nat.div_eq_of_lt (by omega), Nat.mod_eq_of_lt (by omega)] at h
  exact h.mono fun _ _ g => ⟨g.1, g.2.symm⟩
/-- the first k of n are true -/
def truesF (n k : Nat) : List Bool := List.replicate k true ++ List.replicate (n - k) false
theorem truesF_len (n k : Nat) (h : k ≤ n) : (truesF n k).length = n := by unfold truesF; simp; omega
theorem truesF_copy (n k c : Nat) (h : k + c ≤ n) : splice ((truesF n k).map Value.bool) k ((List.replicate c true).map Value.bool) = (truesF n (k + c)).map Value.bool := by
  unfold splice truesF
  simp only [List.map_append, List.map_replicate, List.length_replicate]
  rw [List.take_left' (by simp), List.drop_append, List.drop_eq_nil_of_le (by simp), List.nil_append, List.length_replicate, List.drop_replicate, ← List.append_assoc, List.replicate_append_replicate]
  congr 2
  omega
set_option maxHeartbeats 8000000 in
set_option maxRecDepth 100000 in
theorem repeat_any (ax : Addr) (cx n : Nat) (w : World) (hn : n ≤ 1000000) (hn0 : 0 < n) (hx : w.cell? ax = some (.bool true)) :
    Calls Try.prog 17 #[.slice (some ax) 1 cx, .int .i64 (n : Int)] w fun e w' => ∃ aw gw, e = .returned (.slice (some aw) n n) ∧ BoolsAt w' aw gw (List.replicate n true) ∧ Below w.heap.size w w' := by
  obtain ⟨j0, hj, hy0, hy1, hy2⟩ := info_parts Try.infoBool
  have hsz1 : (Try.prog.info? 4).map (·.size) = some 1 := by kernel_rfl
  have n0 : (0 : Int) ≤ (n : Int) := by omega
  have n1 : (n : Int) ≤ 1000000 := by omega
  have u1 : IntKind.u64.wrap (n : Int) = n := by rw [IntKind.wrap_u64]; omega
  have u2 : IntKind.i64.wrap (n : Int) = n := by rw [IntKind.wrap_i64]; omega
  have u3 : wrap64 (n : Int) = n := by unfold wrap64; omega
  have hT0 : truesF n 0 = List.replicate n false := by unfold truesF; simp
  go_enter Try.func17, Try.ntmps17
  go_wp2_with (first
    | (go_at_call 33; refine (mul_one' n hn _).mono ?_; rintro e w1 ⟨rfl, rfl⟩)
    | (at_make; refine wpList_make_full _ rfl _ _ 45 rfl w.heap.size 4 j0 (.bool false) 1 Try.underlying45 hj hy0 hy1 .i64 .i64 _ _ n rfl rfl (by first | rfl | exact u2 | exact u3) (by first | rfl | exact u2 | exact u3) (by rw [hy2]; omega) (by unfold maxLen; omega) (Nat.le_refl _) ?_; intro w0 hown0 hgrow0; rw [made_bools] at hown0; have HB0 := Lib.hid (own_bools (by simp) hown0); have HB1 := Lib.hid ((Below.refl w.heap.size w).grown hgrow0 (Nat.le_refl _) (fun k e => by cases e)); have HX0 : Hid (∀ (j : Nat) (v : Value), ((List.replicate 1 true).map Value.bool)[j]? = some v → w0.cell? (ax.add j) = some v) := Lib.hid (fun j v hjv => by have hj1 := (List.getElem?_eq_some_iff.1 hjv).1; simp at hj1; subst hj1; simp at hjv; subst hjv; rw [add_zero']; exact hgrow0.cell hx (by simp)); clear hown0 hgrow0))
  have hrun := run_copy_row (P := Try.prog) w0 45 45 3 4 w.heap.size 0 n n ax 1 cx ((List.replicate n false).map Value.bool).toArray 4 ((List.replicate 1 true).map Value.bool) Try.underlying45 hsz1 HB0.out.2 (by simp [Nat.min_def]; omega) HX0.out (by simp; omega) (by simp [Value.oneCell'])
  rw [hrun]
  simp only [Result.andThen]
  rw [Oper.upon_value]
  have HBa : Hid (BoolsAt (w0.setRow w.heap.size (((List.replicate n false).map Value.bool).toArray.toList.take 0 ++ (List.replicate 1 true).map Value.bool ++ ((List.replicate n false).map Value.bool).toArray.toList.drop (0 + ((List.replicate 1 true).map Value.bool).length)).toArray) ⟨w.heap.size, 0, none⟩ w.heap.size (truesF n 1)) := Lib.hid ⟨rfl, by
    rw [setRow_heap w0 w.heap.size _ _ 4 (0, 0) HB0.out.2]
    congr 2
    have h := truesF_copy n 0 1 (by omega)
    rw [hT0] at h
    unfold splice at h
    simp only [List.append_assoc]
    rw [h]⟩
  have HBb : Hid (Below w.heap.size w (w0.setRow w.heap.size (((List.replicate n false).map Value.bool).toArray.toList.take 0 ++ (List.replicate 1 true).map Value.bool ++ ((List.replicate n false).map Value.bool).toArray.toList.drop (0 + ((List.replicate 1 true).map Value.bool).length)).toArray)) := Lib.hid (below_setRow HB1.out (Nat.le_refl _) _)
  generalize w0.setRow w.heap.size _ = w2 at HBa HBb ⊢
  clear hrun HB0 HB1 HX0 hT0
  generalize haw : (⟨w.heap.size, 0, none⟩ : Addr) = aw at HBa ⊢
  have HAW := Lib.hid haw
  clear haw
  go_wp2
  go_loopw [8] (fun K W => ∃ k : Nat, K = .int .i64 (k : Int) ∧ k ≤ n ∧ 0 < k ∧ BoolsAt W aw w.heap.size (truesF n k) ∧ Below w.heap.size w W) (fun K _ => n - (intOf K).toNat)
  case atStart => exact ⟨1, rfl, by omega, by omega, HBa.out, HBb.out⟩
  case round =>
    clear HBa HBb
    obtain ⟨k, rfl, hkn, hk0, hBo, hB⟩ := hrel
    by_cases hlt : k < n
    · have hlt' : (k : Int) < (n : Int) := by omega
      have k0 : (0 : Int) ≤ (k : Int) := by omega
      have hle : (k : Int) ≤ (n : Int) := by omega
      have HBo := Lib.hid hBo
      have HB := Lib.hid hB
      clear hBo hB
      obtain ⟨c, hc⟩ : ∃ c, Nat.min k (n - k) = c := ⟨_, rfl⟩
      have hcb : 0 < c ∧ k + c ≤ n := by rw [← hc]; simp only [Nat.min_def]; split <;> omega
      have HP : Hid (0 < ((List.replicate c true).map Value.bool).length → some (aw.add k) = some (⟨w.heap.size, k, none⟩ : Addr) ∧ ∃ ad, some aw = some ad ∧ ∀ (j : Nat) (v : Value), ((List.replicate c true).map Value.bool)[j]? = some v → wr.drew.cell? (ad.add j) = some v) := Lib.hid fun _ => ⟨by rw [← HAW.out, addr_mul], aw, rfl, fun j v hjv => by
        have hjc : j < c := by have := (List.getElem?_eq_some_iff.1 hjv).1; simpa using this
        have hk2 : c ≤ k := by rw [← hc]; exact Nat.min_le_left _ _
        have hcell := HBo.out.cell j (by rw [truesF_len n k hkn]; omega)
        have e1 : (truesF n k)[j]'(by rw [truesF_len n k hkn]; omega) = true := by unfold truesF; rw [List.getElem_append_left (by simp; omega)]; simp
        rw [e1] at hcell
        have e2 : v = .bool true := by simp [hjc] at hjv; exact hjv.symm
        rw [e2]
        exact hcell⟩
      have HF : Hid (k + ((List.replicate c true).map Value.bool).length ≤ ((truesF n k).map Value.bool).length) := Lib.hid (by simp [truesF_len n k hkn]; exact hcb.2)
      have HN : Hid (((List.replicate c true).map Value.bool).length = Nat.min k (n - k)) := Lib.hid (by simp; exact hc.symm)
      have HO : Hid (∀ v ∈ (List.replicate c true).map Value.bool, v.oneCell' = true) := Lib.hid (by intro v hv; simp at hv; obtain ⟨_, rfl⟩ := hv; rfl)
      have HH : Hid (wr.drew.heap[w.heap.size]? = some (.cells ((truesF n k).map Value.bool).toArray 4 (0, 0))) := Lib.hid HBo.out.2
      have HD : Hid (Below w.heap.size w wr.drew) := Lib.hid HB.out.drew
      have HS := Lib.hid (truesF_copy n k c hcb.2)
      have HL : Hid (((List.replicate c true).map Value.bool).length = c) := Lib.hid (by simp)
      obtain ⟨hc0, hc1⟩ := hcb
      clear hc
      generalize (List.replicate c true).map Value.bool = cs at *
      generalize (truesF n k).map Value.bool = cur at *
      go_wp2
      go_region_law (refine step_copy_splice rfl (.tmp 41) (.tmp 44) 45 45 rfl 4 Try.underlying45 hsz1 (some (aw.add k)) (some aw) (n - k) (n - k) k n (by simp [Act.eval, Act.put]; omega) (by simp [Act.eval, Act.put]) w.heap.size k cur 4 HH.out cs HN.out HP.out HF.out HO.out w.heap.size w HD.out (Nat.le_refl _) ?_; intro w4 hg4 hb4)
      all_goals (go_wp2)
      all_goals (
        have hg5 := hg4.out
        rw [HS.out] at hg5
        have hwr : IntKind.i64.wrap ((k : Int) + (cs.length : Int)) = ((k + c : Nat) : Int) := by rw [HL.out, IntWalk.i64_in _ (by omega)]; omega
        rw [hwr]
        first
          | exact ⟨⟨k + c, rfl, hc1, by omega, ⟨HAW.out.symm, hg5⟩⟩, by simp [intOf]; omega⟩
          | exact ⟨⟨k + c, rfl, hc1, by omega, ⟨HAW.out.symm, hg5⟩, hb4⟩, by simp [intOf]; omega⟩)
    · obtain rfl : k = n := by omega
      have hge : ¬ (k : Int) < (k : Int) := by omega
      have hT : truesF k k = List.replicate k true := by unfold truesF; simp
      rw [hT] at hBo
      have HBo := Lib.hid hBo
      have HB := Lib.hid hB
      clear hBo hB hT
      go_wp2
      go_ret
      exact ⟨aw, rfl, ⟨_, HBo.out⟩, HB.out⟩
set_option maxHeartbeats 8000000 in
set_option maxRecDepth 100000 in
theorem repeat_zero (ax : Addr) (cx : Nat) (w : World) :
    Calls Try.prog 17 #[.slice (some ax) 1 cx, .int .i64 0] w fun e w' => ∃ aw gw, e = .returned (.slice (some aw) 0 0) ∧ BoolsAt w' aw gw [] ∧ Below w.heap.size w w' := by
  obtain ⟨j0, hj, hy0, hy1, hy2⟩ := info_parts Try.infoBool
  have hsz1 : (Try.prog.info? 4).map (·.size) = some 1 := by kernel_rfl
  go_enter Try.func17, Try.ntmps17
  go_wp2_with (first
    | (go_at_call 33; refine (mul_one' 0 (by decide) _).mono ?_; rintro e w1 ⟨rfl, rfl⟩)
    | (at_make; refine wpList_make_full _ rfl _ _ 45 rfl w.heap.size 4 j0 (.bool false) 1 Try.underlying45 hj hy0 hy1 .i64 .i64 _ _ 0 rfl rfl rfl rfl (by rw [hy2]; omega) (by unfold maxLen; omega) (Nat.le_refl _) ?_; intro w0 hown0 hgrow0; rw [made_bools] at hown0; have HB0 := Lib.hid (own_bools (by simp) hown0); have HB1 := Lib.hid ((Below.refl w.heap.size w).grown hgrow0 (Nat.le_refl _) (fun k e => by cases e)); clear hown0 hgrow0))
  have hrun := run_copy_none (P := Try.prog) w0 45 45 3 4 (some ⟨w.heap.size, 0, none⟩) (some ax) 0 0 1 cx Try.underlying45 hsz1 rfl
  rw [hrun]
  simp only [Result.andThen]
  rw [Oper.upon_value]
  clear hrun
  go_wp2
  go_loopw [8] (fun K W => K = .int .i64 0 ∧ W = w0) (fun K _ => 0)
  case atStart => exact ⟨rfl, rfl⟩
  case round =>
    obtain ⟨rfl, rfl⟩ := hrel
    go_wp2
    go_ret
    exact ⟨_, _, rfl, HB0.out, HB1.out⟩
end Go.Proofs.Ytplfpaffjaldoaa
