/-
  Package asm: what find returns.
-/
import Derived.Maps.OwnOps
import Derived.Maps.OwnSet
import Derived.Maps.Views
import Derived.Test.YtplfpaffjaldoaaAsmD
namespace Go.Proofs.Ytplfpaffjaldoaa
open Go.ChangeShapes Go.WideShapes Go.ChangeAt Go.RowKit
set_option linter.unusedVariables false

def As.isL (label : Int) (x : As.It) : Bool := x.kind == 1 && x.label == label
/-- which item a label is, among the first ones -/
def As.fnd (L : List As.It) (k : Nat) (label : Int) : Option Nat := (L.take k).findIdx? (As.isL label)
def As.dup (L : List As.It) (k : Nat) : Bool := (List.range k).any fun j => match L[j]? with | some x => x.kind == 1 && (As.fnd L j x.label).isSome | none => false
def As.lost (L : List As.It) (k : Nat) : Bool := (L.take k).any fun x => x.kind == 2 && (As.fnd L L.length x.label).isNone
theorem fnd_succ (L : List As.It) (k : Nat) (hk : k < L.length) (label : Int) : As.fnd L (k + 1) label = match As.fnd L k label with | some j => some j | none => if As.isL label L[k] then some k else none := by
  unfold As.fnd
  rw [List.take_add_one, List.getElem?_eq_getElem hk, Option.toList_some, List.findIdx?_append]
  cases h : (L.take k).findIdx? (As.isL label) with
  | some j => rfl
  | none =>
    rw [List.findIdx?_cons]
    cases As.isL label L[k] with
    | true => simp [List.length_take]; omega
    | false => simp
theorem dup_succ (L : List As.It) (k : Nat) (hk : k < L.length) : As.dup L (k + 1) = (As.dup L k || (L[k].kind == 1 && (As.fnd L k L[k].label).isSome)) := by
  unfold As.dup
  rw [List.range_succ, List.any_append]
  simp [List.getElem?_eq_getElem hk]
theorem lost_succ (L : List As.It) (k : Nat) (hk : k < L.length) : As.lost L (k + 1) = (As.lost L k || (L[k].kind == 2 && (As.fnd L L.length L[k].label).isNone)) := by
  unfold As.lost
  rw [any_take _ L k hk]
/-- a map's datum as which item a label is -/
def As.MapOf (D : DataW Unit) (f : Int → Option Nat) : Prop := Maps.IsMap D ∧ ∀ l : Int, Maps.has D (.int .i64 l) = (f l).isSome ∧ D.atKey (.int .i64 l) (.lit (.int .i64 0)) = .lit (.int .i64 (((f l).getD 0 : Nat) : Int))
theorem MapOf.start : As.MapOf (.map []) (fun _ => none) := ⟨Maps.isMap_empty, fun l => ⟨rfl, rfl⟩⟩
theorem MapOf.put {D : DataW Unit} {f : Int → Option Nat} (h : As.MapOf D f) (label : Int) (k : Nat) : As.MapOf (D.put (.int .i64 label) (.lit (.int .i64 (k : Int)))) (fun l => if l = label then some k else f l) := by
  have hk : WideAt.IsKeyLit (.int .i64 label) := trivial
  refine ⟨?_, fun l => ?_⟩
  · obtain ⟨es, rfl⟩ := h.1
    exact ⟨_, rfl⟩
  · by_cases e : l = label
    · subst e
      dsimp only
      rw [if_pos rfl]
      exact ⟨Maps.has_put_same h.1 hk _, Maps.atKey_put_same h.1 hk _ _⟩
    · have hne : (Lit.int .i64 l) ≠ .int .i64 label := fun q => e (by injection q)
      dsimp only
      rw [if_neg e]
      exact ⟨(Maps.has_put_other hne _).trans (h.2 l).1, (Maps.atKey_put_other hne _ _).trans (h.2 l).2⟩
theorem MapOf.congr {D : DataW Unit} {f g : Int → Option Nat} (h : As.MapOf D f) (e : ∀ l, f l = g l) : As.MapOf D g := ⟨h.1, fun l => by rw [← e l]; exact h.2 l⟩
/-- labels are numbers of 64 bits -/
def As.wf (L : List As.It) : Prop := ∀ k (hk : k < L.length), (Lit.int .i64 L[k].label).wf = true
def As.findE (L : List As.It) : Int := if As.dup L L.length then 13 else if As.lost L L.length then 12 else 0
theorem wf_nat (k : Nat) (h : k ≤ 1000000) : (Lit.int .i64 (k : Int)).wf = true := by
  simp [Lit.wf, IntKind.min, IntKind.max, IntKind.signed, IntKind.bits]
  omega
set_option maxHeartbeats 8000000 in
set_option maxRecDepth 100000 in
theorem afind_any (pl : Option Addr) (cl n : Nat) (L : List As.It) (w : World) (hn : Hid (L.length = n)) (hb : n ≤ 1000000) (hL : Hid (SliceC itC 10 w (.slice pl n cl) L)) (hW : Hid (As.wf L)) (R : Int) (hR : Hid (As.findE L = R)) :
    Calls Try.prog 16 #[.slice pl n cl] w fun e w' => (∃ m, e = .returned (.tuple #[m, .int .i64 R]) ∧ (R = 0 → m = .map (some w.heap.size) ∧ ∃ D, w'.ownsMap Try.prog 3 (plainElem Try.prog 3) w.heap.size n D ∧ As.MapOf D (As.fnd L n))) ∧ Below w.heap.size w w' := by
  have hmk := @run_makeMap Try.prog
  go_enter Try.func16, Try.ntmps16
  go_wp2
  go_loopw [16] (fun K wr => ∃ (k : Nat) (D : DataW Unit), K = .int .i64 (k : Int) ∧ k ≤ n ∧ As.dup L k = false ∧ wr.ownsMap Try.prog 3 (plainElem Try.prog 3) w.heap.size k D ∧ As.MapOf D (As.fnd L k) ∧ Below w.heap.size w wr) (fun K _ => n - (intOf K).toNat)
  case atStart => exact ⟨0, _, rfl, Nat.zero_le _, rfl, World.ownsMap_made _ _ _ _, MapOf.start, (Below.refl _ _).alloc (Nat.le_refl _) _⟩
  case round =>
    obtain ⟨k, D, rfl, hk, hd, hown, hM, hB⟩ := hrel
    by_cases hlt : k < n
    · have hkL : k < L.length := by rw [hn.out]; exact hlt
      have hlt' : (k : Int) < (n : Int) := by omega
      have hk0 : (0 : Int) ≤ (k : Int) := by omega
      have hds := dup_succ L k hkL
      have hfs := fnd_succ L k hkL
      rw [hd, Bool.false_or] at hds
      obtain ⟨p', c', e', hat⟩ := hL.out.kept hB
      obtain ⟨a, hpa, hOn⟩ := hat k hkL
      injection e' with ep en ec
      rw [hpa] at ep
      subst ep
      have hwf := hW.out k hkL
      rcases hx : L[k] with ⟨kind, label, ⟨op, rd, rn, rm, ra, imm, cond, wide⟩⟩
      rw [hx] at hOn hds hwf
      dsimp only at hds hwf
      obtain ⟨x0, x1, x2, x3, x4, x5, x6, x7, x8, x9⟩ := ItAt.of hOn
      have hkey := Maps.keyOf_int_mk (P := Try.prog) Try.underlying3 hwf
      rw [hx] at hfs
      have HFS := Lib.hid hfs
      clear hOn hat hpa ec en hx hfs
      by_cases hk1 : kind = 1
      · subst hk1
        have hh := (hM.2 label).1
        have hds' : As.dup L (k + 1) = (As.fnd L k label).isSome := by rw [hds]; simp
        cases hf : As.fnd L k label with
        | some j =>
          rw [hf] at hh hds'
          have hhas : Maps.has D (.int .i64 label) = true := hh
          have hR13 : R = 13 := by
            rw [← hR.out]; unfold As.findE
            rw [if_pos]
            have : As.dup L (k + 1) = true := hds'
            unfold As.dup at this ⊢
            rw [List.any_eq_true] at this ⊢
            obtain ⟨j', hj', hq⟩ := this
            exact ⟨j', List.mem_range.2 (by have := List.mem_range.1 hj'; omega), hq⟩
          subst hR13
          clear hds hds' hd hf hh hM
          go_wp2_with (at_lookup; refine wpList_lookup_own_ok _ rfl _ _ 54 rfl 3 3 (Maps.int_keyed Try.underlying3) Try.underlying54 _ (Try.zeroValue3 _) (.lit (.int .i64 0)) [] (plainElem_int Try.underlying3 (by decide)) w.heap.size k D rfl (hown.kept (row := none) (World.grownBy_alloc wr _ none) (by simp)) _ _ rfl hkey ?_; intro v ps hv; obtain ⟨cv, rfl, hcv, hwc⟩ := plainElem_int_inv Try.underlying3 hv; clear hv; rw [hhas])
          go_ret2
          exact ⟨⟨_, rfl, fun h => absurd h (by decide)⟩, hB.alloc hB.size _⟩
        | none =>
          rw [hf] at hh hds'
          have hhas : Maps.has D (.int .i64 label) = false := hh
          have hwfk : (Lit.int .i64 (k : Int)).wf = true := wf_nat k (by omega)
          have hM2 : As.MapOf (D.put (.int .i64 label) (.lit (.int .i64 (k : Int)))) (As.fnd L (k + 1)) := MapOf.congr (MapOf.put hM label k) (fun l => by
            rw [HFS.out l]
            by_cases e : l = label
            · subst e; rw [if_pos rfl, hf]; simp [As.isL]
            · rw [if_neg e]
              have : As.isL l ⟨1, label, ⟨op, rd, rn, rm, ra, imm, cond, wide⟩⟩ = false := by simp [As.isL]; omega
              rw [this]
              cases As.fnd L k l <;> rfl)
          have HM2 := Lib.hid hM2
          have HDS := Lib.hid hds'
          clear hds hds' hd hf hh hM hM2
          go_wp2_with (first | (at_lookup; refine wpList_lookup_own_ok _ rfl _ _ 54 rfl 3 3 (Maps.int_keyed Try.underlying3) Try.underlying54 _ (Try.zeroValue3 _) (.lit (.int .i64 0)) [] (plainElem_int Try.underlying3 (by decide)) w.heap.size k D rfl (hown.kept (row := none) (World.grownBy_alloc wr _ none) (by simp)) _ _ rfl hkey ?_; intro v ps hv; obtain ⟨cv, rfl, hcv, hwc⟩ := plainElem_int_inv Try.underlying3 hv; clear hv; rw [hhas]) | (at_mapUpdate; refine wpList_mapUpdate_own _ rfl _ _ _ 54 rfl 3 3 (Maps.int_keyed Try.underlying3) Try.underlying54 _ w.heap.size k D rfl (hown.kept (row := none) (World.grownBy_alloc wr _ none) (by simp)) (by unfold maxLen; omega) _ _ _ rfl rfl hkey _ [] (plainElem_int Try.underlying3 hwfk) ?_; intro w3 hown3 hgrow3))
          exact ⟨⟨k + 1, _, by simp, by omega, HDS.out, hown3, HM2.out, (hB.alloc hB.size _).grown hgrow3 (by have := hB.size; simp; omega) (fun j e => by cases e; exact Nat.le_refl _)⟩, by simp [intOf]; omega⟩
      · have hk2 : (kind != 1) = true := by simpa using hk1
        have hk3 : (kind == 1) = false := by simpa using hk1
        rw [hk3, Bool.false_and] at hds
        have hM2 : As.MapOf D (As.fnd L (k + 1)) := MapOf.congr hM (fun l => by
          rw [HFS.out l]
          have : As.isL l ⟨kind, label, ⟨op, rd, rn, rm, ra, imm, cond, wide⟩⟩ = false := by simp [As.isL, hk1]
          rw [this]
          cases As.fnd L k l <;> rfl)
        have HM2 := Lib.hid hM2
        have HDS := Lib.hid hds
        clear hds hd hM hM2 hk3
        go_wp2
        exact ⟨⟨k + 1, D, by simp, by omega, HDS.out, (hown.kept (row := none) (World.grownBy_alloc _ _ none) (by simp)).mono (by omega), HM2.out, hB.alloc hB.size _⟩, by simp [intOf]; omega⟩
    · have hge : ¬ (k : Int) < (n : Int) := by omega
      obtain rfl : k = n := by omega
      have HD := Lib.hid hd
      have HM := Lib.hid hM
      clear hd hM
      go_wp2
      go_loopw [39] (fun K wr => ∃ j : Nat, K = .int .i64 (j : Int) ∧ j ≤ k ∧ As.lost L j = false ∧ wr.ownsMap Try.prog 3 (plainElem Try.prog 3) w.heap.size k D ∧ Below w.heap.size w wr) (fun K _ => k - (intOf K).toNat)
      case atStart => exact ⟨0, rfl, Nat.zero_le _, rfl, hown, hB⟩
      case round =>
        clear hown hB
        obtain ⟨j, rfl, hj, hd, hown, hB⟩ := hrel
        by_cases hlt : j < k
        · have hkL : j < L.length := by rw [hn.out]; exact hlt
          have hlt' : (j : Int) < (k : Int) := by omega
          have hk0 : (0 : Int) ≤ (j : Int) := by omega
          have hds := lost_succ L j hkL
          rw [hd, Bool.false_or, hn.out] at hds
          obtain ⟨p', c', e', hat⟩ := hL.out.kept hB
          obtain ⟨a, hpa, hOn⟩ := hat j hkL
          injection e' with ep en ec
          rw [hpa] at ep
          subst ep
          have hwf := hW.out j hkL
          rcases hx : L[j] with ⟨kind, label, ⟨op, rd, rn, rm, ra, imm, cond, wide⟩⟩
          rw [hx] at hOn hds hwf
          dsimp only at hds hwf
          obtain ⟨x0, x1, x2, x3, x4, x5, x6, x7, x8, x9⟩ := ItAt.of hOn
          have hkey := Maps.keyOf_int_mk (P := Try.prog) Try.underlying3 hwf
          have hh := (HM.out.2 label).1
          clear hOn hat hpa ec en hx
          by_cases hk2 : kind = 2
          · subst hk2
            cases hf : As.fnd L k label with
            | none =>
              rw [hf] at hh hds
              have hhas : Maps.has D (.int .i64 label) = false := hh
              have hR12 : R = 12 := by
                rw [← hR.out]; unfold As.findE
                rw [hn.out, HD.out, if_neg (by decide), if_pos]
                have h1 : As.lost L (j + 1) = true := hds
                unfold As.lost at h1 ⊢
                rw [List.any_eq_true] at h1 ⊢
                obtain ⟨y, hy, hq⟩ := h1
                refine ⟨y, ?_, hq⟩
                have h2 : L.take k = L := by rw [← hn.out, List.take_length]
                rw [h2]
                exact List.mem_of_mem_take hy
              subst hR12
              clear hds hd hf hh
              go_wp2_with (at_lookup; refine wpList_lookup_own_ok _ rfl _ _ 54 rfl 3 3 (Maps.int_keyed Try.underlying3) Try.underlying54 _ (Try.zeroValue3 _) (.lit (.int .i64 0)) [] (plainElem_int Try.underlying3 (by decide)) w.heap.size k D rfl (hown.kept (row := none) (World.grownBy_alloc wr _ none) (by simp)) _ _ rfl hkey ?_; intro v ps hv; obtain ⟨cv, rfl, hcv, hwc⟩ := plainElem_int_inv Try.underlying3 hv; clear hv; rw [hhas])
              go_ret2
              exact ⟨⟨_, rfl, fun h => absurd h (by decide)⟩, hB.alloc hB.size _⟩
            | some q =>
              rw [hf] at hh hds
              have hhas : Maps.has D (.int .i64 label) = true := hh
              have HDS : Hid (As.lost L (j + 1) = false) := Lib.hid hds
              clear hds hd hf hh
              go_wp2_with (at_lookup; refine wpList_lookup_own_ok _ rfl _ _ 54 rfl 3 3 (Maps.int_keyed Try.underlying3) Try.underlying54 _ (Try.zeroValue3 _) (.lit (.int .i64 0)) [] (plainElem_int Try.underlying3 (by decide)) w.heap.size k D rfl (hown.kept (row := none) (World.grownBy_alloc wr _ none) (by simp)) _ _ rfl hkey ?_; intro v ps hv; obtain ⟨cv, rfl, hcv, hwc⟩ := plainElem_int_inv Try.underlying3 hv; clear hv; rw [hhas])
              exact ⟨⟨j + 1, by simp, by omega, HDS.out, hown.kept (row := none) (World.grownBy_alloc _ _ none) (by simp), hB.alloc hB.size _⟩, by simp [intOf]; omega⟩
          · have hk3 : (kind == 2) = false := by simpa using hk2
            rw [hk3, Bool.false_and] at hds
            have HDS := Lib.hid hds
            obtain ⟨bh, hhas⟩ : ∃ bh, Maps.has D (.int .i64 label) = bh := ⟨_, rfl⟩
            clear hds hd hh
            go_wp2_with (at_lookup; refine wpList_lookup_own_ok _ rfl _ _ 54 rfl 3 3 (Maps.int_keyed Try.underlying3) Try.underlying54 _ (Try.zeroValue3 _) (.lit (.int .i64 0)) [] (plainElem_int Try.underlying3 (by decide)) w.heap.size k D rfl (hown.kept (row := none) (World.grownBy_alloc wr _ none) (by simp)) _ _ rfl hkey ?_; intro v ps hv; obtain ⟨cv, rfl, hcv, hwc⟩ := plainElem_int_inv Try.underlying3 hv; clear hv; rw [hhas])
            exact ⟨⟨j + 1, by simp, by omega, HDS.out, hown.kept (row := none) (World.grownBy_alloc _ _ none) (by simp), hB.alloc hB.size _⟩, by simp [intOf]; omega⟩
        · have hge2 : ¬ (j : Int) < (k : Int) := by omega
          obtain rfl : j = k := by omega
          have hR0 : R = 0 := by
            rw [← hR.out]; unfold As.findE
            rw [hn.out, HD.out, if_neg (by decide), hd, if_neg (by decide)]
          subst hR0
          clear hd
          go_wp2
          go_ret2
          exact ⟨⟨_, rfl, ⟨rfl, D, hown, HM.out⟩⟩, hB⟩
end Go.Proofs.Ytplfpaffjaldoaa
