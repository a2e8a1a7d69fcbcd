/-
The document's reader: labels, types, parameters.
The document's reader: an append to a list of expressions; a name with what is behind it.
-/
import Derived.Test.YtjfdcnggnldgdaaGreatDoorP25b
import Derived.Test.YtjfdcnggnldgdaaGreatDoorP24a
import Derived.Test.YtjfdcnggnldgdaaGreatDoorP25a
import Derived.Test.YtjfdcnggnldgdaaGreatDoorP23b
section
namespace Go.Proofs.YtjfdcnggnldgdaaGreatDoor
open Go.ChangeShapes Go.WideShapes Go.ChangeAt Go.RowKit
set_option linter.unusedVariables false
set_option linter.unusedSimpArgs false

/-- a block's cells, some of them anew -/
def setsL (cs : Array Value) (k : Nat) : List Value → Array Value
  | [] => cs
  | v :: vs => setsL (cs.setIfInBounds k v) (k + 1) vs
theorem set_same {α : Type} : ∀ (I : List α) (i : Nat) (x : α), I[i]? = some x → I.set i x = I
  | [], i, x, h => by cases h
  | y :: I, 0, x, h => by cases h; rfl
  | y :: I, i + 1, x, h => by rw [List.set_cons_succ, set_same I i x (by simpa using h)]
theorem St.setCells {X : Nat → Prop} {w0 : World} {i b : Nat} {t : TypeId} : ∀ (vs : List Value) {w : World} {I : List It} {cs : Array Value} (k : Nat), St X w0 w I → I[i]? = some (.row b t cs) → St X w0 (w.setCells b k vs) (I.set i (.row b t (setsL cs k vs)))
  | [], w, I, cs, k, h, hi => by rw [show setsL cs k [] = cs from rfl, set_same I i _ hi]; exact h
  | v :: vs, w, I, cs, k, h, hi => by
    have h1 := h.setCell i hi k v
    have hI' : (I.set i (.row b t (cs.setIfInBounds k v)))[i]? = some (.row b t (cs.setIfInBounds k v)) := by
      rw [List.getElem?_set_self]
      exact (List.getElem?_eq_some_iff.1 hi).1
    have h2 := St.setCells vs (k + 1) h1 hI'
    rw [List.set_set] at h2
    exact h2
theorem wpl_storeMid {ops : Array Oper} {rest : List Oper} {o : Oper} {a : Act} {w w0 : World} {X : Nat → Prop} {I : List It} {Q : Exit → Act → World → Prop} {b k n : Nat} {t tb : TypeId} {cs ds : Array Value} (h : St X w0 w I) (i : Nat) (ho : stOf a o = some (t, .pointer (some ⟨b, k, none⟩), .agg ds)) (hI : I[i]? = some (.row b tb cs)) (T : StructT t n) (F : Fits n ds) (hk : k + n ≤ cs.size)
    (kk : ∀ w', Hid (St X w0 w' (I.set i (.row b tb (setsL cs k ds.toList)))) → wpList Tryz.prog ops Q rest (a.put o.dst undef) w') : wpList Tryz.prog ops Q (o :: rest) a w := by
  obtain ⟨hg, x, y, ho, hx, hy⟩ := stOf_eq ho
  have hn := F.1
  have h1 := F.2
  refine wpList_store_mid hg _ x y ho b k ds hx hy (fun j hj => ⟨?_, h.open i hI _⟩) (by rw [T.info, hn]) h1 (kk _ (Lib.hid (h.setCells ds.toList k hI)))
  rw [h.cell i hI, Array.getElem?_eq_getElem (by omega)]
  rfl
set_option maxHeartbeats 8000000 in
set_option maxRecDepth 100000 in
theorem rlabel_fn (b : Nat) (L : List Lx.Tok) (hL : Sx.Ok L) (σ : Sx.R) : Fn 70 #[.pointer (some ⟨b, 0, none⟩)] [rr b L σ]
    fun e J => e = .returned (.int .i64 (Sx.label L σ).1) ∧ J = [rr b L (Sx.label L σ).2] := by
  intro w P hP h0
  have HS := Lib.hid (St.start hP h0)
  have C1 := Lib.hid (rmay_fn b L hL σ Sx.wSec (by decide))
  have C2 := Lib.hid (reat_fn b L hL (Sx.may L Sx.wSec σ).2 Sx.wPub (by decide))
  clear h0 hP hL
  unfold Sx.label
  cases h : (Sx.may L Sx.wSec σ).1
  · rw [h] at C1
    clear h
    go_enter Tryz.func70, Tryz.ntmps70
    go_wp2_with (first
      | (go_at_call 69; refine (HS.out.call1 C1.out).mono ?_; rintro e w1 ⟨J, ⟨rfl, rfl⟩, hs⟩; simp only [List.cons_append, List.nil_append] at hs; have HS1 := Lib.hid hs; clear hs HS)
      | (go_at_call 65; refine (HS1.out.call1 C2.out).mono ?_; rintro e w2 ⟨J, ⟨rfl, rfl⟩, hs⟩; simp only [List.cons_append, List.nil_append] at hs; have HS2 := Lib.hid hs; clear hs HS1))
    go_ret
    exact ⟨_, ⟨rfl, rfl⟩, HS2.out⟩
  · rw [h] at C1
    clear h
    go_enter Tryz.func70, Tryz.ntmps70
    go_wp2_with (first
      | (go_at_call 69; refine (HS.out.call1 C1.out).mono ?_; rintro e w1 ⟨J, ⟨rfl, rfl⟩, hs⟩; simp only [List.cons_append, List.nil_append] at hs; have HS1 := Lib.hid hs; clear hs HS))
    go_ret
    exact ⟨_, ⟨rfl, rfl⟩, HS1.out⟩
theorem Sx.type_mask {L : List Lx.Tok} {sc : Bool} {lab : Int} {σ : Sx.R} (h : (Sx.may L Sx.wMask σ).1 = true) : Sx.type L sc lab σ = (⟨1, 0, lab⟩, (Sx.may L Sx.wMask σ).2) := by unfold Sx.type; rw [if_pos h]
theorem Sx.type_u8 {L : List Lx.Tok} {lab : Int} {σ : Sx.R} (h : (Sx.may L Sx.wMask σ).1 = false) (h2 : (Sx.may L Sx.wU8 (Sx.may L Sx.wMask σ).2).1 = true) : Sx.type L false lab σ = (⟨2, (Sx.brackets L (Sx.may L Sx.wU8 (Sx.may L Sx.wMask σ).2).2).1, lab⟩, (Sx.brackets L (Sx.may L Sx.wU8 (Sx.may L Sx.wMask σ).2).2).2) := by
  unfold Sx.type; rw [if_neg (by rw [h]; decide)]; simp only []; rw [if_pos (by rw [h2]; rfl)]
theorem Sx.may_keep {L : List Lx.Tok} {s : List UInt8} {σ : Sx.R} (h : (Sx.may L s σ).1 = false) : (Sx.may L s σ).2 = σ := by
  unfold Sx.may at h ⊢
  split at h
  · cases h
  · rename_i h1; rw [if_neg h1]
theorem Sx.type_u32 {L : List Lx.Tok} {sc : Bool} {lab : Int} {σ : Sx.R} (h : (Sx.may L Sx.wMask σ).1 = false) (h2 : (!sc && (Sx.may L Sx.wU8 (Sx.may L Sx.wMask σ).2).1) = false) (h3 : (!sc && Sx.sees L [91] (Sx.eat L Sx.wU32 (Sx.may L Sx.wMask σ).2)) = false) : Sx.type L sc lab σ = (⟨0, 0, lab⟩, Sx.eat L Sx.wU32 (Sx.may L Sx.wMask σ).2) := by
  unfold Sx.type; rw [if_neg (by rw [h]; decide)]; simp only []; rw [if_neg (by rw [h2]; decide), if_neg (by rw [h3]; decide)]
theorem Sx.type_arr {L : List Lx.Tok} {lab : Int} {σ : Sx.R} (h : (Sx.may L Sx.wMask σ).1 = false) (h2 : (Sx.may L Sx.wU8 (Sx.may L Sx.wMask σ).2).1 = false) (h3 : Sx.sees L [91] (Sx.eat L Sx.wU32 (Sx.may L Sx.wMask σ).2) = true) : Sx.type L false lab σ = (⟨0, (Sx.brackets L (Sx.eat L Sx.wU32 (Sx.may L Sx.wMask σ).2)).1, lab⟩, (Sx.brackets L (Sx.eat L Sx.wU32 (Sx.may L Sx.wMask σ).2)).2) := by
  unfold Sx.type; rw [if_neg (by rw [h]; decide)]; simp only []; rw [if_neg (by rw [h2]; decide), if_pos (by rw [h3]; rfl)]
theorem Sx.br_eq {L : List Lx.Tok} {σ τ : Sx.R} (h : (if (Sx.tk L (Sx.eat L [91] σ)).num = 0 then Sx.wrong L 10 (Sx.eat L [91] σ) else Sx.eat L [91] σ) = τ) : Sx.brackets L σ = ((Sx.some L 2 τ).1.num, Sx.eat L [93] (Sx.some L 2 τ).2) := by subst h; rfl
set_option maxHeartbeats 8000000 in
set_option maxRecDepth 100000 in
theorem rkind_mask (b : Nat) (L : List Lx.Tok) (hL : Sx.Ok L) (σ : Sx.R) (sc : Bool) (lab : Int) (h : (Sx.may L Sx.wMask σ).1 = true) : Fn 71 #[.pointer (some ⟨b, 0, none⟩), .bool sc, .int .i64 lab] [rr b L σ]
    fun e J => e = .returned (.agg #[.int .i64 (Sx.type L sc lab σ).1.elem, .int .i64 (Sx.type L sc lab σ).1.len, .int .i64 (Sx.type L sc lab σ).1.label]) ∧ J = [rr b L (Sx.type L sc lab σ).2] := by
  intro w P hP h0
  have HS := Lib.hid (St.start hP h0)
  have C1 := Lib.hid (rmay_fn b L hL σ Sx.wMask (by decide))
  rw [Sx.type_mask h]
  rw [h] at C1
  clear h h0 hP hL
  go_enter Tryz.func71, Tryz.ntmps71
  go_wp2_with (first
    | (refine wpl_alloc HS.out _ rfl tyZ ?_; intro b_r w1 HS1; clear HS)
    | (refine wpl_alloc HS1.out _ rfl tyZ ?_; intro b_t w2 HS2; clear HS1)
    | (refine wpl_storeS HS2.out 1 rfl rfl tyT rfl (fits3i _ _ _) ?_; intro w3 hs; have HS3 := Lib.hid (show St _ _ _ (_ :: _ :: _ :: []) from hs.out); clear hs HS2)
    | (go_at_call 69; refine (HS3.out.call1 C1.out).mono ?_; rintro e w4 ⟨J, ⟨rfl, rfl⟩, hs⟩; simp only [List.cons_append, List.nil_append] at hs; have HS4 := Lib.hid hs; clear hs HS3)
    | (refine wpl_store HS4.out 1 rfl rfl intO (of_decide_eq_true rfl) rfl ?_; intro w5 hs; have HS5 := Lib.hid (show St _ _ _ (_ :: _ :: _ :: []) from hs.out); clear hs HS4)
    | (refine wpl_loadS HS5.out 1 rfl rfl tyT rfl ?_)
    | (refine wpl_storeS HS5.out 2 rfl rfl tyT rfl (fits3i _ _ _) ?_; intro w6 hs; have HS6 := Lib.hid (show St _ _ _ (_ :: _ :: _ :: []) from hs.out); clear hs HS5))
  refine bp_cell HS6.out 2 tyT rfl rfl rfl rfl rfl ⟨_, ⟨rfl, rfl⟩, HS6.out.sel [0] rfl⟩
set_option maxHeartbeats 8000000 in
set_option maxRecDepth 100000 in
theorem rkind_u32s (b : Nat) (L : List Lx.Tok) (hL : Sx.Ok L) (σ : Sx.R) (lab : Int) (h : (Sx.may L Sx.wMask σ).1 = false) : Fn 71 #[.pointer (some ⟨b, 0, none⟩), .bool true, .int .i64 lab] [rr b L σ]
    fun e J => e = .returned (.agg #[.int .i64 (Sx.type L true lab σ).1.elem, .int .i64 (Sx.type L true lab σ).1.len, .int .i64 (Sx.type L true lab σ).1.label]) ∧ J = [rr b L (Sx.type L true lab σ).2] := by
  intro w P hP h0
  have HS := Lib.hid (St.start hP h0)
  have C1 := Lib.hid (rmay_fn b L hL σ Sx.wMask (by decide))
  rw [Sx.type_u32 h rfl rfl]
  rw [h] at C1
  have C2 := Lib.hid (reat_fn b L hL (Sx.may L Sx.wMask σ).2 Sx.wU32 (by decide))
  clear h h0 hP hL
  go_enter Tryz.func71, Tryz.ntmps71
  go_wp2_with (first
    | (refine wpl_alloc HS.out _ rfl tyZ ?_; intro b_r w1 HS1; clear HS)
    | (refine wpl_alloc HS1.out _ rfl tyZ ?_; intro b_t w2 HS2; clear HS1)
    | (refine wpl_storeS HS2.out 1 rfl rfl tyT rfl (fits3i _ _ _) ?_; intro w3 hs; have HS3 := Lib.hid (show St _ _ _ (_ :: _ :: _ :: []) from hs.out); clear hs HS2)
    | (go_at_call 69; refine (HS3.out.call1 C1.out).mono ?_; rintro e w4 ⟨J, ⟨rfl, rfl⟩, hs⟩; simp only [List.cons_append, List.nil_append] at hs; have HS4 := Lib.hid hs; clear hs HS3)
    | (go_at_call 65; refine (HS4.out.call1 C2.out).mono ?_; rintro e w5 ⟨J, ⟨rfl, rfl⟩, hs⟩; simp only [List.cons_append, List.nil_append] at hs; have HS5 := Lib.hid hs; clear hs HS4)
    | (refine wpl_loadS HS5.out 1 rfl rfl tyT rfl ?_)
    | (refine wpl_storeS HS5.out 2 rfl rfl tyT rfl (fits3i _ _ _) ?_; intro w6 hs; have HS6 := Lib.hid (show St _ _ _ (_ :: _ :: _ :: []) from hs.out); clear hs HS5))
  refine bp_cell HS6.out 2 tyT rfl rfl rfl rfl rfl ⟨_, ⟨rfl, rfl⟩, HS6.out.sel [0] rfl⟩
set_option maxHeartbeats 8000000 in
set_option maxRecDepth 100000 in
theorem rkind_u32 (b : Nat) (L : List Lx.Tok) (hL : Sx.Ok L) (σ : Sx.R) (lab : Int) (h : (Sx.may L Sx.wMask σ).1 = false) (h2 : (Sx.may L Sx.wU8 (Sx.may L Sx.wMask σ).2).1 = false) (h3 : Sx.sees L [91] (Sx.eat L Sx.wU32 (Sx.may L Sx.wMask σ).2) = false) : Fn 71 #[.pointer (some ⟨b, 0, none⟩), .bool false, .int .i64 lab] [rr b L σ]
    fun e J => e = .returned (.agg #[.int .i64 (Sx.type L false lab σ).1.elem, .int .i64 (Sx.type L false lab σ).1.len, .int .i64 (Sx.type L false lab σ).1.label]) ∧ J = [rr b L (Sx.type L false lab σ).2] := by
  intro w P hP h0
  have HS := Lib.hid (St.start hP h0)
  have C1 := Lib.hid (rmay_fn b L hL σ Sx.wMask (by decide))
  rw [Sx.type_u32 h (by rw [h2]; rfl) (by rw [h3]; rfl)]
  rw [h] at C1
  have C3 := Lib.hid (rmay_fn b L hL (Sx.may L Sx.wMask σ).2 Sx.wU8 (by decide))
  have hk := Sx.may_keep h2
  rw [h2, hk] at C3
  have C2 := Lib.hid (reat_fn b L hL (Sx.may L Sx.wMask σ).2 Sx.wU32 (by decide))
  have C4 := Lib.hid (rsees_fn b L (Sx.eat L Sx.wU32 (Sx.may L Sx.wMask σ).2) [91])
  rw [h3] at C4
  clear h h2 h3 hk h0 hP hL
  go_enter Tryz.func71, Tryz.ntmps71
  go_wp2_with (first
    | (refine wpl_alloc HS.out _ rfl tyZ ?_; intro b_r w1 HS1; clear HS)
    | (refine wpl_alloc HS1.out _ rfl tyZ ?_; intro b_t w2 HS2; clear HS1)
    | (refine wpl_storeS HS2.out 1 rfl rfl tyT rfl (fits3i _ _ _) ?_; intro w3 hs; have HS3 := Lib.hid (show St _ _ _ (_ :: _ :: _ :: []) from hs.out); clear hs HS2)
    | (go_at_call 69; refine (HS3.out.call1 C1.out).mono ?_; rintro e w4 ⟨J, ⟨rfl, rfl⟩, hs⟩; simp only [List.cons_append, List.nil_append] at hs; have HS4 := Lib.hid hs; clear hs HS3)
    | (go_at_call 69; refine (HS4.out.call1 C3.out).mono ?_; rintro e w5 ⟨J, ⟨rfl, rfl⟩, hs⟩; simp only [List.cons_append, List.nil_append] at hs; have HS5 := Lib.hid hs; clear hs HS4)
    | (go_at_call 65; refine (HS5.out.call1 C2.out).mono ?_; rintro e w6 ⟨J, ⟨rfl, rfl⟩, hs⟩; simp only [List.cons_append, List.nil_append] at hs; have HS6 := Lib.hid hs; clear hs HS5)
    | (go_at_call 67; refine (HS6.out.call1 C4.out).mono ?_; rintro e w7 ⟨J, ⟨rfl, rfl⟩, hs⟩; simp only [List.cons_append, List.nil_append] at hs; have HS7 := Lib.hid hs; clear hs HS6)
    | (refine wpl_loadS HS7.out 1 rfl rfl tyT rfl ?_)
    | (refine wpl_storeS HS7.out 2 rfl rfl tyT rfl (fits3i _ _ _) ?_; intro w8 hs; have HS8 := Lib.hid (show St _ _ _ (_ :: _ :: _ :: []) from hs.out); clear hs HS7))
  refine bp_cell HS8.out 2 tyT rfl rfl rfl rfl rfl ⟨_, ⟨rfl, rfl⟩, HS8.out.sel [0] rfl⟩
set_option maxHeartbeats 8000000 in
set_option maxRecDepth 100000 in
theorem rkind_u8 (b : Nat) (L : List Lx.Tok) (hL : Sx.Ok L) (σ : Sx.R) (lab : Int) (h : (Sx.may L Sx.wMask σ).1 = false) (h2 : (Sx.may L Sx.wU8 (Sx.may L Sx.wMask σ).2).1 = true) : Fn 71 #[.pointer (some ⟨b, 0, none⟩), .bool false, .int .i64 lab] [rr b L σ]
    fun e J => e = .returned (.agg #[.int .i64 (Sx.type L false lab σ).1.elem, .int .i64 (Sx.type L false lab σ).1.len, .int .i64 (Sx.type L false lab σ).1.label]) ∧ J = [rr b L (Sx.type L false lab σ).2] := by
  intro w P hP h0
  have HS := Lib.hid (St.start hP h0)
  have C1 := Lib.hid (rmay_fn b L hL σ Sx.wMask (by decide))
  rw [h] at C1
  have C3 := Lib.hid (rmay_fn b L hL (Sx.may L Sx.wMask σ).2 Sx.wU8 (by decide))
  rw [Sx.type_u8 h h2]
  rw [h2] at C3
  clear h h2 h0 hP
  have C5 := Lib.hid (reat_fn b L hL (Sx.may L Sx.wU8 (Sx.may L Sx.wMask σ).2).2 [91] (by decide))
  have hbr := fun τ => Sx.br_eq (L := L) (σ := (Sx.may L Sx.wU8 (Sx.may L Sx.wMask σ).2).2) (τ := τ)
  generalize Sx.brackets L (Sx.may L Sx.wU8 (Sx.may L Sx.wMask σ).2).2 = br at hbr ⊢
  generalize Sx.eat L [91] (Sx.may L Sx.wU8 (Sx.may L Sx.wMask σ).2).2 = ρ at C5 hbr
  by_cases hz : (Sx.tk L ρ).num = 0
  · have hq := hbr _ (if_pos hz)
    subst hq
    have C6 := Lib.hid (rwrong_fn b L ρ 10 (by decide))
    have C7 := Lib.hid (rsome_fn b L hL (Sx.wrong L 10 ρ) 2 (by decide))
    have C8 := Lib.hid (reat_fn b L hL (Sx.some L 2 (Sx.wrong L 10 ρ)).2 [93] (by decide))
    have hF2 := tokF2
    clear hbr hL
    go_enter Tryz.func71, Tryz.ntmps71
    go_wp2_with (first
      | (refine wpl_alloc HS.out _ rfl tyZ ?_; intro b_r w1 HS1; clear HS)
      | (refine wpl_alloc HS1.out _ rfl tyZ ?_; intro b_t w2 HS2; clear HS1)
      | (refine wpl_storeS HS2.out 1 rfl rfl tyT rfl (fits3i _ _ _) ?_; intro w3 hs; have HS3 := Lib.hid (show St _ _ _ (_ :: _ :: _ :: []) from hs.out); clear hs HS2)
      | (go_at_call 69; refine (HS3.out.call1 C1.out).mono ?_; rintro e w4 ⟨J, ⟨rfl, rfl⟩, hs⟩; simp only [List.cons_append, List.nil_append] at hs; have HS4 := Lib.hid hs; clear hs HS3)
      | (go_at_call 69; refine (HS4.out.call1 C3.out).mono ?_; rintro e w5 ⟨J, ⟨rfl, rfl⟩, hs⟩; simp only [List.cons_append, List.nil_append] at hs; have HS5 := Lib.hid hs; clear hs HS4)
      | (refine wpl_store HS5.out 1 rfl rfl intO (of_decide_eq_true rfl) rfl ?_; intro w6 hs; have HS6 := Lib.hid (show St _ _ _ (_ :: _ :: _ :: []) from hs.out); clear hs HS5)
      | (go_at_call 65; refine (HS6.out.call1 C5.out).mono ?_; rintro e w7 ⟨J, ⟨rfl, rfl⟩, hs⟩; simp only [List.cons_append, List.nil_append] at hs; have HS7 := Lib.hid hs; clear hs HS6; obtain ⟨a7, cap7, t7, m7, e7, p7, hr, hs3⟩ := HS7.out.rrOpen; have HR7 := Lib.hid hr; have HO7 := Lib.hid hs3; clear hs3 hr))
    obtain ⟨hb0_7, hb1_7, hb2_7⟩ := rr_bound HR7.out
    refine wp_region_held_drew (S := fun w' => w'.cell? ⟨b, 0, none⟩ = some (.slice (some a7) L.length cap7) ∧ w'.cell? ⟨b, 1, none⟩ = some (.int .i64 (t7 : Int)) ∧ w'.cell? ⟨(a7.add (t7 * 4)).block, (a7.add (t7 * 4)).off + 2, none⟩ = some (.int .i64 (Sx.tk L ρ).num)) (by kernel_rfl) (⟨HO7.out.drew.cell 0 rfl 0, HO7.out.drew.cell 0 rfl 1, (tk_cells (toks_t ((HO7.out.drew.sep.pick 1 rfl).choose_spec.choose_spec.2.2.2.1) HR7.out)).2.2.1⟩) (fun hHeld => ?_)
    refine tkH 0 ?_
    refine tkH 1 ?_
    refine tkH 2 ?_
    refine tkH 3 ?_
    refine tkH 4 ?_
    refine tkH 5 ?_
    refine tkH 6 ?_
    refine tkH 7 ?_
    refine tkH 8 ?_
    refine tkH 9 ?_
    refine tkH 10 ?_
    refine tkH 11 ?_
    refine wpAnyH_done (by kernel_rfl) ?_ _
    have HQ := Lib.hid (HO7.out.drew.rrClose HR7.out)
    clear HS7 HO7
    have HS7 := HQ
    clear HQ
    go_wp2_with (first
      | (go_at_call 132; refine (HS7.out.call1 C6.out).mono ?_; rintro e w8 ⟨J, ⟨rfl, rfl⟩, hs⟩; simp only [List.cons_append, List.nil_append] at hs; have HS8 := Lib.hid hs; clear hs HS7)
      | (go_at_call 66; refine (HS8.out.call1 C7.out).mono ?_; rintro e w9 ⟨J, ⟨rfl, rfl⟩, hs⟩; simp only [List.cons_append, List.nil_append] at hs; have HS9 := Lib.hid hs; clear hs HS8)
      | (refine wpl_alloc HS9.out _ rfl tokZ ?_; intro b_n w10 HS10; clear HS9)
      | (refine wpl_storeS HS10.out 1 rfl rfl tokT rfl (fitsT _ _ _ _) ?_; intro w11 hs; have HS11 := Lib.hid (show St _ _ _ (_ :: _ :: _ :: _ :: []) from hs.out); clear hs HS10)
      | (refine wpl_load HS11.out 1 rfl rfl intO rfl ?_)
      | (refine wpl_store HS11.out 2 rfl rfl intO (of_decide_eq_true rfl) rfl ?_; intro w12 hs; have HS12 := Lib.hid (show St _ _ _ (_ :: _ :: _ :: _ :: []) from hs.out); clear hs HS11)
      | (go_at_call 65; refine (HS12.out.call1 C8.out).mono ?_; rintro e w13 ⟨J, ⟨rfl, rfl⟩, hs⟩; simp only [List.cons_append, List.nil_append] at hs; have HS13 := Lib.hid hs; clear hs HS12)
      | (refine wpl_loadS HS13.out 2 rfl rfl tyT rfl ?_)
      | (refine wpl_storeS HS13.out 3 rfl rfl tyT rfl (fits3i _ _ _) ?_; intro w14 hs; have HS14 := Lib.hid (show St _ _ _ (_ :: _ :: _ :: _ :: []) from hs.out); clear hs HS13))
    refine bp_cell HS14.out 3 tyT rfl rfl rfl rfl rfl ⟨_, ⟨rfl, rfl⟩, HS14.out.sel [0] rfl⟩
  · have hq := hbr _ (if_neg hz)
    subst hq
    have C7 := Lib.hid (rsome_fn b L hL ρ 2 (by decide))
    have C8 := Lib.hid (reat_fn b L hL (Sx.some L 2 ρ).2 [93] (by decide))
    have hF2 := tokF2
    clear hbr hL
    go_enter Tryz.func71, Tryz.ntmps71
    go_wp2_with (first
      | (refine wpl_alloc HS.out _ rfl tyZ ?_; intro b_r w1 HS1; clear HS)
      | (refine wpl_alloc HS1.out _ rfl tyZ ?_; intro b_t w2 HS2; clear HS1)
      | (refine wpl_storeS HS2.out 1 rfl rfl tyT rfl (fits3i _ _ _) ?_; intro w3 hs; have HS3 := Lib.hid (show St _ _ _ (_ :: _ :: _ :: []) from hs.out); clear hs HS2)
      | (go_at_call 69; refine (HS3.out.call1 C1.out).mono ?_; rintro e w4 ⟨J, ⟨rfl, rfl⟩, hs⟩; simp only [List.cons_append, List.nil_append] at hs; have HS4 := Lib.hid hs; clear hs HS3)
      | (go_at_call 69; refine (HS4.out.call1 C3.out).mono ?_; rintro e w5 ⟨J, ⟨rfl, rfl⟩, hs⟩; simp only [List.cons_append, List.nil_append] at hs; have HS5 := Lib.hid hs; clear hs HS4)
      | (refine wpl_store HS5.out 1 rfl rfl intO (of_decide_eq_true rfl) rfl ?_; intro w6 hs; have HS6 := Lib.hid (show St _ _ _ (_ :: _ :: _ :: []) from hs.out); clear hs HS5)
      | (go_at_call 65; refine (HS6.out.call1 C5.out).mono ?_; rintro e w7 ⟨J, ⟨rfl, rfl⟩, hs⟩; simp only [List.cons_append, List.nil_append] at hs; have HS7 := Lib.hid hs; clear hs HS6; obtain ⟨a7, cap7, t7, m7, e7, p7, hr, hs3⟩ := HS7.out.rrOpen; have HR7 := Lib.hid hr; have HO7 := Lib.hid hs3; clear hs3 hr))
    obtain ⟨hb0_7, hb1_7, hb2_7⟩ := rr_bound HR7.out
    refine wp_region_held_drew (S := fun w' => w'.cell? ⟨b, 0, none⟩ = some (.slice (some a7) L.length cap7) ∧ w'.cell? ⟨b, 1, none⟩ = some (.int .i64 (t7 : Int)) ∧ w'.cell? ⟨(a7.add (t7 * 4)).block, (a7.add (t7 * 4)).off + 2, none⟩ = some (.int .i64 (Sx.tk L ρ).num)) (by kernel_rfl) (⟨HO7.out.drew.cell 0 rfl 0, HO7.out.drew.cell 0 rfl 1, (tk_cells (toks_t ((HO7.out.drew.sep.pick 1 rfl).choose_spec.choose_spec.2.2.2.1) HR7.out)).2.2.1⟩) (fun hHeld => ?_)
    refine tkH 0 ?_
    refine tkH 1 ?_
    refine tkH 2 ?_
    refine tkH 3 ?_
    refine tkH 4 ?_
    refine tkH 5 ?_
    refine tkH 6 ?_
    refine tkH 7 ?_
    refine tkH 8 ?_
    refine tkH 9 ?_
    refine tkH 10 ?_
    refine tkH 11 ?_
    refine wpAnyH_done (by kernel_rfl) ?_ _
    have HQ := Lib.hid (HO7.out.drew.rrClose HR7.out)
    clear HS7 HO7
    have HS7 := HQ
    clear HQ
    go_wp2_with (first
      | (go_at_call 66; refine (HS7.out.call1 C7.out).mono ?_; rintro e w8 ⟨J, ⟨rfl, rfl⟩, hs⟩; simp only [List.cons_append, List.nil_append] at hs; have HS8 := Lib.hid hs; clear hs HS7)
      | (refine wpl_alloc HS8.out _ rfl tokZ ?_; intro b_n w9 HS9; clear HS8)
      | (refine wpl_storeS HS9.out 1 rfl rfl tokT rfl (fitsT _ _ _ _) ?_; intro w10 hs; have HS10 := Lib.hid (show St _ _ _ (_ :: _ :: _ :: _ :: []) from hs.out); clear hs HS9)
      | (refine wpl_load HS10.out 1 rfl rfl intO rfl ?_)
      | (refine wpl_store HS10.out 2 rfl rfl intO (of_decide_eq_true rfl) rfl ?_; intro w11 hs; have HS11 := Lib.hid (show St _ _ _ (_ :: _ :: _ :: _ :: []) from hs.out); clear hs HS10)
      | (go_at_call 65; refine (HS11.out.call1 C8.out).mono ?_; rintro e w12 ⟨J, ⟨rfl, rfl⟩, hs⟩; simp only [List.cons_append, List.nil_append] at hs; have HS12 := Lib.hid hs; clear hs HS11)
      | (refine wpl_loadS HS12.out 2 rfl rfl tyT rfl ?_)
      | (refine wpl_storeS HS12.out 3 rfl rfl tyT rfl (fits3i _ _ _) ?_; intro w13 hs; have HS13 := Lib.hid (show St _ _ _ (_ :: _ :: _ :: _ :: []) from hs.out); clear hs HS12))
    refine bp_cell HS13.out 3 tyT rfl rfl rfl rfl rfl ⟨_, ⟨rfl, rfl⟩, HS13.out.sel [0] rfl⟩
set_option maxHeartbeats 8000000 in
set_option maxRecDepth 100000 in
theorem rkind_arr (b : Nat) (L : List Lx.Tok) (hL : Sx.Ok L) (σ : Sx.R) (lab : Int) (h : (Sx.may L Sx.wMask σ).1 = false) (h2 : (Sx.may L Sx.wU8 (Sx.may L Sx.wMask σ).2).1 = false) (h3 : Sx.sees L [91] (Sx.eat L Sx.wU32 (Sx.may L Sx.wMask σ).2) = true) : Fn 71 #[.pointer (some ⟨b, 0, none⟩), .bool false, .int .i64 lab] [rr b L σ]
    fun e J => e = .returned (.agg #[.int .i64 (Sx.type L false lab σ).1.elem, .int .i64 (Sx.type L false lab σ).1.len, .int .i64 (Sx.type L false lab σ).1.label]) ∧ J = [rr b L (Sx.type L false lab σ).2] := by
  intro w P hP h0
  have HS := Lib.hid (St.start hP h0)
  have C1 := Lib.hid (rmay_fn b L hL σ Sx.wMask (by decide))
  rw [h] at C1
  have C3 := Lib.hid (rmay_fn b L hL (Sx.may L Sx.wMask σ).2 Sx.wU8 (by decide))
  rw [Sx.type_arr h h2 h3]
  have hk := Sx.may_keep h2
  rw [h2, hk] at C3
  have C2 := Lib.hid (reat_fn b L hL (Sx.may L Sx.wMask σ).2 Sx.wU32 (by decide))
  have C4 := Lib.hid (rsees_fn b L (Sx.eat L Sx.wU32 (Sx.may L Sx.wMask σ).2) [91])
  rw [h3] at C4
  clear h3 hk
  clear h h2 h0 hP
  have C5 := Lib.hid (reat_fn b L hL (Sx.eat L Sx.wU32 (Sx.may L Sx.wMask σ).2) [91] (by decide))
  have hbr := fun τ => Sx.br_eq (L := L) (σ := (Sx.eat L Sx.wU32 (Sx.may L Sx.wMask σ).2)) (τ := τ)
  generalize Sx.brackets L (Sx.eat L Sx.wU32 (Sx.may L Sx.wMask σ).2) = br at hbr ⊢
  generalize Sx.eat L [91] (Sx.eat L Sx.wU32 (Sx.may L Sx.wMask σ).2) = ρ at C5 hbr
  by_cases hz : (Sx.tk L ρ).num = 0
  · have hq := hbr _ (if_pos hz)
    subst hq
    have C6 := Lib.hid (rwrong_fn b L ρ 10 (by decide))
    have C7 := Lib.hid (rsome_fn b L hL (Sx.wrong L 10 ρ) 2 (by decide))
    have C8 := Lib.hid (reat_fn b L hL (Sx.some L 2 (Sx.wrong L 10 ρ)).2 [93] (by decide))
    have hF2 := tokF2
    clear hbr hL
    go_enter Tryz.func71, Tryz.ntmps71
    go_wp2_with (first
      | (refine wpl_alloc HS.out _ rfl tyZ ?_; intro b_r w1 HS1; clear HS)
      | (refine wpl_alloc HS1.out _ rfl tyZ ?_; intro b_t w2 HS2; clear HS1)
      | (refine wpl_storeS HS2.out 1 rfl rfl tyT rfl (fits3i _ _ _) ?_; intro w3 hs; have HS3 := Lib.hid (show St _ _ _ (_ :: _ :: _ :: []) from hs.out); clear hs HS2)
      | (go_at_call 69; refine (HS3.out.call1 C1.out).mono ?_; rintro e w4 ⟨J, ⟨rfl, rfl⟩, hs⟩; simp only [List.cons_append, List.nil_append] at hs; have HS4 := Lib.hid hs; clear hs HS3)
      | (go_at_call 69; refine (HS4.out.call1 C3.out).mono ?_; rintro e w5 ⟨J, ⟨rfl, rfl⟩, hs⟩; simp only [List.cons_append, List.nil_append] at hs; have HS5 := Lib.hid hs; clear hs HS4)
      | (go_at_call 65; refine (HS5.out.call1 C2.out).mono ?_; rintro e w6 ⟨J, ⟨rfl, rfl⟩, hs⟩; simp only [List.cons_append, List.nil_append] at hs; have HS6 := Lib.hid hs; clear hs HS5)
      | (go_at_call 67; refine (HS6.out.call1 C4.out).mono ?_; rintro e w7 ⟨J, ⟨rfl, rfl⟩, hs⟩; simp only [List.cons_append, List.nil_append] at hs; have HS7 := Lib.hid hs; clear hs HS6)
      | (go_at_call 65; refine (HS7.out.call1 C5.out).mono ?_; rintro e w8 ⟨J, ⟨rfl, rfl⟩, hs⟩; simp only [List.cons_append, List.nil_append] at hs; have HS8 := Lib.hid hs; clear hs HS7; obtain ⟨a8, cap8, t8, m8, e8, p8, hr, hs3⟩ := HS8.out.rrOpen; have HR8 := Lib.hid hr; have HO8 := Lib.hid hs3; clear hs3 hr))
    obtain ⟨hb0_8, hb1_8, hb2_8⟩ := rr_bound HR8.out
    refine wp_region_held_drew (S := fun w' => w'.cell? ⟨b, 0, none⟩ = some (.slice (some a8) L.length cap8) ∧ w'.cell? ⟨b, 1, none⟩ = some (.int .i64 (t8 : Int)) ∧ w'.cell? ⟨(a8.add (t8 * 4)).block, (a8.add (t8 * 4)).off + 2, none⟩ = some (.int .i64 (Sx.tk L ρ).num)) (by kernel_rfl) (⟨HO8.out.drew.cell 0 rfl 0, HO8.out.drew.cell 0 rfl 1, (tk_cells (toks_t ((HO8.out.drew.sep.pick 1 rfl).choose_spec.choose_spec.2.2.2.1) HR8.out)).2.2.1⟩) (fun hHeld => ?_)
    refine tkH 0 ?_
    refine tkH 1 ?_
    refine tkH 2 ?_
    refine tkH 3 ?_
    refine tkH 4 ?_
    refine tkH 5 ?_
    refine tkH 6 ?_
    refine tkH 7 ?_
    refine tkH 8 ?_
    refine tkH 9 ?_
    refine tkH 10 ?_
    refine tkH 11 ?_
    refine wpAnyH_done (by kernel_rfl) ?_ _
    have HQ := Lib.hid (HO8.out.drew.rrClose HR8.out)
    clear HS8 HO8
    have HS8 := HQ
    clear HQ
    go_wp2_with (first
      | (go_at_call 132; refine (HS8.out.call1 C6.out).mono ?_; rintro e w9 ⟨J, ⟨rfl, rfl⟩, hs⟩; simp only [List.cons_append, List.nil_append] at hs; have HS9 := Lib.hid hs; clear hs HS8)
      | (go_at_call 66; refine (HS9.out.call1 C7.out).mono ?_; rintro e w10 ⟨J, ⟨rfl, rfl⟩, hs⟩; simp only [List.cons_append, List.nil_append] at hs; have HS10 := Lib.hid hs; clear hs HS9)
      | (refine wpl_alloc HS10.out _ rfl tokZ ?_; intro b_n w11 HS11; clear HS10)
      | (refine wpl_storeS HS11.out 1 rfl rfl tokT rfl (fitsT _ _ _ _) ?_; intro w12 hs; have HS12 := Lib.hid (show St _ _ _ (_ :: _ :: _ :: _ :: []) from hs.out); clear hs HS11)
      | (refine wpl_load HS12.out 1 rfl rfl intO rfl ?_)
      | (refine wpl_store HS12.out 2 rfl rfl intO (of_decide_eq_true rfl) rfl ?_; intro w13 hs; have HS13 := Lib.hid (show St _ _ _ (_ :: _ :: _ :: _ :: []) from hs.out); clear hs HS12)
      | (go_at_call 65; refine (HS13.out.call1 C8.out).mono ?_; rintro e w14 ⟨J, ⟨rfl, rfl⟩, hs⟩; simp only [List.cons_append, List.nil_append] at hs; have HS14 := Lib.hid hs; clear hs HS13)
      | (refine wpl_loadS HS14.out 2 rfl rfl tyT rfl ?_)
      | (refine wpl_storeS HS14.out 3 rfl rfl tyT rfl (fits3i _ _ _) ?_; intro w15 hs; have HS15 := Lib.hid (show St _ _ _ (_ :: _ :: _ :: _ :: []) from hs.out); clear hs HS14))
    refine bp_cell HS15.out 3 tyT rfl rfl rfl rfl rfl ⟨_, ⟨rfl, rfl⟩, HS15.out.sel [0] rfl⟩
  · have hq := hbr _ (if_neg hz)
    subst hq
    have C7 := Lib.hid (rsome_fn b L hL ρ 2 (by decide))
    have C8 := Lib.hid (reat_fn b L hL (Sx.some L 2 ρ).2 [93] (by decide))
    have hF2 := tokF2
    clear hbr hL
    go_enter Tryz.func71, Tryz.ntmps71
    go_wp2_with (first
      | (refine wpl_alloc HS.out _ rfl tyZ ?_; intro b_r w1 HS1; clear HS)
      | (refine wpl_alloc HS1.out _ rfl tyZ ?_; intro b_t w2 HS2; clear HS1)
      | (refine wpl_storeS HS2.out 1 rfl rfl tyT rfl (fits3i _ _ _) ?_; intro w3 hs; have HS3 := Lib.hid (show St _ _ _ (_ :: _ :: _ :: []) from hs.out); clear hs HS2)
      | (go_at_call 69; refine (HS3.out.call1 C1.out).mono ?_; rintro e w4 ⟨J, ⟨rfl, rfl⟩, hs⟩; simp only [List.cons_append, List.nil_append] at hs; have HS4 := Lib.hid hs; clear hs HS3)
      | (go_at_call 69; refine (HS4.out.call1 C3.out).mono ?_; rintro e w5 ⟨J, ⟨rfl, rfl⟩, hs⟩; simp only [List.cons_append, List.nil_append] at hs; have HS5 := Lib.hid hs; clear hs HS4)
      | (go_at_call 65; refine (HS5.out.call1 C2.out).mono ?_; rintro e w6 ⟨J, ⟨rfl, rfl⟩, hs⟩; simp only [List.cons_append, List.nil_append] at hs; have HS6 := Lib.hid hs; clear hs HS5)
      | (go_at_call 67; refine (HS6.out.call1 C4.out).mono ?_; rintro e w7 ⟨J, ⟨rfl, rfl⟩, hs⟩; simp only [List.cons_append, List.nil_append] at hs; have HS7 := Lib.hid hs; clear hs HS6)
      | (go_at_call 65; refine (HS7.out.call1 C5.out).mono ?_; rintro e w8 ⟨J, ⟨rfl, rfl⟩, hs⟩; simp only [List.cons_append, List.nil_append] at hs; have HS8 := Lib.hid hs; clear hs HS7; obtain ⟨a8, cap8, t8, m8, e8, p8, hr, hs3⟩ := HS8.out.rrOpen; have HR8 := Lib.hid hr; have HO8 := Lib.hid hs3; clear hs3 hr))
    obtain ⟨hb0_8, hb1_8, hb2_8⟩ := rr_bound HR8.out
    refine wp_region_held_drew (S := fun w' => w'.cell? ⟨b, 0, none⟩ = some (.slice (some a8) L.length cap8) ∧ w'.cell? ⟨b, 1, none⟩ = some (.int .i64 (t8 : Int)) ∧ w'.cell? ⟨(a8.add (t8 * 4)).block, (a8.add (t8 * 4)).off + 2, none⟩ = some (.int .i64 (Sx.tk L ρ).num)) (by kernel_rfl) (⟨HO8.out.drew.cell 0 rfl 0, HO8.out.drew.cell 0 rfl 1, (tk_cells (toks_t ((HO8.out.drew.sep.pick 1 rfl).choose_spec.choose_spec.2.2.2.1) HR8.out)).2.2.1⟩) (fun hHeld => ?_)
    refine tkH 0 ?_
    refine tkH 1 ?_
    refine tkH 2 ?_
    refine tkH 3 ?_
    refine tkH 4 ?_
    refine tkH 5 ?_
    refine tkH 6 ?_
    refine tkH 7 ?_
    refine tkH 8 ?_
    refine tkH 9 ?_
    refine tkH 10 ?_
    refine tkH 11 ?_
    refine wpAnyH_done (by kernel_rfl) ?_ _
    have HQ := Lib.hid (HO8.out.drew.rrClose HR8.out)
    clear HS8 HO8
    have HS8 := HQ
    clear HQ
    go_wp2_with (first
      | (go_at_call 66; refine (HS8.out.call1 C7.out).mono ?_; rintro e w9 ⟨J, ⟨rfl, rfl⟩, hs⟩; simp only [List.cons_append, List.nil_append] at hs; have HS9 := Lib.hid hs; clear hs HS8)
      | (refine wpl_alloc HS9.out _ rfl tokZ ?_; intro b_n w10 HS10; clear HS9)
      | (refine wpl_storeS HS10.out 1 rfl rfl tokT rfl (fitsT _ _ _ _) ?_; intro w11 hs; have HS11 := Lib.hid (show St _ _ _ (_ :: _ :: _ :: _ :: []) from hs.out); clear hs HS10)
      | (refine wpl_load HS11.out 1 rfl rfl intO rfl ?_)
      | (refine wpl_store HS11.out 2 rfl rfl intO (of_decide_eq_true rfl) rfl ?_; intro w12 hs; have HS12 := Lib.hid (show St _ _ _ (_ :: _ :: _ :: _ :: []) from hs.out); clear hs HS11)
      | (go_at_call 65; refine (HS12.out.call1 C8.out).mono ?_; rintro e w13 ⟨J, ⟨rfl, rfl⟩, hs⟩; simp only [List.cons_append, List.nil_append] at hs; have HS13 := Lib.hid hs; clear hs HS12)
      | (refine wpl_loadS HS13.out 2 rfl rfl tyT rfl ?_)
      | (refine wpl_storeS HS13.out 3 rfl rfl tyT rfl (fits3i _ _ _) ?_; intro w14 hs; have HS14 := Lib.hid (show St _ _ _ (_ :: _ :: _ :: _ :: []) from hs.out); clear hs HS13))
    refine bp_cell HS14.out 3 tyT rfl rfl rfl rfl rfl ⟨_, ⟨rfl, rfl⟩, HS14.out.sel [0] rfl⟩
theorem rkind_fn (b : Nat) (L : List Lx.Tok) (hL : Sx.Ok L) (σ : Sx.R) (sc : Bool) (lab : Int) : Fn 71 #[.pointer (some ⟨b, 0, none⟩), .bool sc, .int .i64 lab] [rr b L σ]
    fun e J => e = .returned (.agg #[.int .i64 (Sx.type L sc lab σ).1.elem, .int .i64 (Sx.type L sc lab σ).1.len, .int .i64 (Sx.type L sc lab σ).1.label]) ∧ J = [rr b L (Sx.type L sc lab σ).2] := by
  cases h : (Sx.may L Sx.wMask σ).1
  · cases sc
    · cases h2 : (Sx.may L Sx.wU8 (Sx.may L Sx.wMask σ).2).1
      · cases h3 : Sx.sees L [91] (Sx.eat L Sx.wU32 (Sx.may L Sx.wMask σ).2)
        · exact rkind_u32 b L hL σ lab h h2 h3
        · exact rkind_arr b L hL σ lab h h2 h3
      · exact rkind_u8 b L hL σ lab h h2
    · exact rkind_u32s b L hL σ lab h
  · exact rkind_mask b L hL σ sc lab h
set_option maxHeartbeats 8000000 in
set_option maxRecDepth 100000 in
theorem rparam_fn (b : Nat) (L : List Lx.Tok) (hL : Sx.Ok L) (σ : Sx.R) : Fn 68 #[.pointer (some ⟨b, 0, none⟩)] [rr b L σ]
    fun e J => e = .returned (.agg (paA (Sx.param L σ).1.pos (Lx.S (Sx.param L σ).1.name) (Sx.param L σ).1.ty.elem (Sx.param L σ).1.ty.len (Sx.param L σ).1.ty.label (Sx.param L σ).1.out)) ∧ J = [rr b L (Sx.param L σ).2] := by
  intro w P hP h0
  have HS := Lib.hid (St.start hP h0)
  have C1 := Lib.hid (rmay_fn b L hL σ Sx.wOut (by decide))
  have C2 := Lib.hid (rlabel_fn b L hL (Sx.may L Sx.wOut σ).2)
  have C3 := Lib.hid (rsome_fn b L hL (Sx.label L (Sx.may L Sx.wOut σ).2).2 1 (by decide))
  have C4 := Lib.hid (reat_fn b L hL (Sx.some L 1 (Sx.label L (Sx.may L Sx.wOut σ).2).2).2 [58] (by decide))
  have C5 := Lib.hid (rkind_fn b L hL (Sx.eat L [58] (Sx.some L 1 (Sx.label L (Sx.may L Sx.wOut σ).2).2).2) false (Sx.label L (Sx.may L Sx.wOut σ).2).1)
  unfold Sx.param
  simp only []
  clear h0 hP hL
  go_enter Tryz.func68, Tryz.ntmps68
  go_wp2_with (first
    | (refine wpl_alloc HS.out _ rfl paZ ?_; intro b_r w1 HS1; clear HS)
    | (refine wpl_alloc HS1.out _ rfl paZ ?_; intro b_o w2 HS2; clear HS1)
    | (go_at_call 69; refine (HS2.out.call1 C1.out).mono ?_; rintro e w3 ⟨J, ⟨rfl, rfl⟩, hs⟩; simp only [List.cons_append, List.nil_append] at hs; have HS3 := Lib.hid hs; clear hs HS2)
    | (refine wpl_store HS3.out 1 rfl rfl boolO (of_decide_eq_true rfl) rfl ?_; intro w4 hs; have HS4 := Lib.hid (show St _ _ _ (_ :: _ :: _ :: []) from hs.out); clear hs HS3)
    | (go_at_call 70; refine (HS4.out.call1 C2.out).mono ?_; rintro e w5 ⟨J, ⟨rfl, rfl⟩, hs⟩; simp only [List.cons_append, List.nil_append] at hs; have HS5 := Lib.hid hs; clear hs HS4)
    | (go_at_call 66; refine (HS5.out.call1 C3.out).mono ?_; rintro e w6 ⟨J, ⟨rfl, rfl⟩, hs⟩; simp only [List.cons_append, List.nil_append] at hs; have HS6 := Lib.hid hs; clear hs HS5)
    | (refine wpl_alloc HS6.out _ rfl tokZ ?_; intro b_n w7 HS7; clear HS6)
    | (refine wpl_storeS HS7.out 1 rfl rfl tokT rfl (fitsT _ _ _ _) ?_; intro w8 hs; have HS8 := Lib.hid (show St _ _ _ (_ :: _ :: _ :: _ :: []) from hs.out); clear hs HS7)
    | (refine wpl_load HS8.out 1 rfl rfl intO rfl ?_)
    | (refine wpl_store HS8.out 2 rfl rfl intO (of_decide_eq_true rfl) rfl ?_; intro w9 hs; have HS9 := Lib.hid (show St _ _ _ (_ :: _ :: _ :: _ :: []) from hs.out); clear hs HS8)
    | (refine wpl_load HS9.out 1 rfl rfl strO rfl ?_)
    | (refine wpl_store HS9.out 2 rfl rfl strO (of_decide_eq_true rfl) rfl ?_; intro w10 hs; have HS10 := Lib.hid (show St _ _ _ (_ :: _ :: _ :: _ :: []) from hs.out); clear hs HS9)
    | (go_at_call 65; refine (HS10.out.call1 C4.out).mono ?_; rintro e w11 ⟨J, ⟨rfl, rfl⟩, hs⟩; simp only [List.cons_append, List.nil_append] at hs; have HS11 := Lib.hid hs; clear hs HS10)
    | (go_at_call 71; refine (HS11.out.call1 C5.out).mono ?_; rintro e w12 ⟨J, ⟨rfl, rfl⟩, hs⟩; simp only [List.cons_append, List.nil_append] at hs; have HS12 := Lib.hid hs; clear hs HS11)
    | (refine wpl_storeMid HS12.out 2 rfl rfl tyT (fits3i _ _ _) (of_decide_eq_true rfl) ?_; intro w13 hs; have HS13 := Lib.hid (show St _ _ _ (_ :: _ :: _ :: _ :: []) from hs.out); clear hs HS12)
    | (refine wpl_loadS HS13.out 2 rfl rfl paT rfl ?_)
    | (refine wpl_storeS HS13.out 3 rfl rfl paT rfl (fitsP _ _ _ _ _ _) ?_; intro w14 hs; have HS14 := Lib.hid (show St _ _ _ (_ :: _ :: _ :: _ :: []) from hs.out); clear hs HS13))
  refine bp_cell HS14.out 3 paT rfl rfl rfl rfl rfl ⟨_, ⟨rfl, rfl⟩, HS14.out.sel [0] rfl⟩
end Go.Proofs.YtjfdcnggnldgdaaGreatDoor
end
section
namespace Go.Proofs.YtjfdcnggnldgdaaGreatDoor
open Go.ChangeShapes Go.WideShapes Go.ChangeAt Go.RowKit
set_option linter.unusedVariables false
set_option linter.unusedSimpArgs false

theorem appE_pre {w : World} {x : It} {I : List It} {P : Nat → Prop} {b3 : Nat} {k p n : Int} {nm : List UInt8} {v v2 : Value} {es es2 : List Sx.E} {i : Nat} (h : Sep w (x :: .row b3 55 (exA k p n nm v2) :: lsI v2 es2 :: I) P) (hi : I[i]? = some (lsI v es)) :
    ∃ xs, Sep w (ownI 55 5 v es.length xs :: elI es xs :: x :: .row b3 55 (exA k p n nm v2) :: lsI v2 es2 :: I.eraseIdx i) P := lsI_open (Sep.pick (i + 3) h hi)
theorem appE_post {w : World} {x r : It} {I : List It} {P : Nat → Prop} {k p n : Int} {nm : List UInt8} {v v' v2 : Value} {es es2 : List Sx.E} {xs : List Value} {i : Nat} (hi : I[i]? = some (lsI v es))
    (h : Sep w (ownI 55 5 v' (es.length + 1) (xs ++ (exA k p n nm v2).toList) :: elI es xs :: x :: r :: lsI v2 es2 :: I.eraseIdx i) P) : Sep w (x :: I.set i (lsI v' (es ++ [.mk k p n nm es2]))) P := by
  have h3 : Sep w (ownI 55 5 v' (es.length + 1) (xs ++ (exA k p n nm v2).toList) :: elI es xs :: lsI v2 es2 :: x :: I.eraseIdx i) P :=
    h.under fun P h => h.under fun P h => (h.under fun P h => h.drop).swap
  have h4 := h3.under fun P h => elI_more (k := k) (p := p) (n := n) (nm := nm) h
  have h5 : Sep w (lsI v' (es ++ [.mk k p n nm es2]) :: x :: I.eraseIdx i) P := lsI_close (by simp) h4
  exact h5.swap.under fun P h => Sep.unpick i hi h
section
variable {ops : Array Oper} {rest : List Oper} {o : Oper} {a : Act} {w w0 : World} {X : Nat → Prop} {x : It} {I : List It} {Q : Exit → Act → World → Prop} {K : Act → World → Prop} {b3 : Nat} {k p n : Int} {nm : List UInt8} {v v2 : Value} {es es2 : List Sx.E} {t : TypeId}
theorem wp_appE (h : St X w0 w (x :: .row b3 55 (exA k p n nm v2) :: lsI v2 es2 :: I)) (i : Nat) (hi : I[i]? = some (lsI v es)) (ho : apOf a o = some ([v, .slice (some ⟨b3, 0, none⟩) 1 1], [t, t])) (hu : Tryz.prog.underlying t = some (.slice 55)) (h12 : v2.oneCell' = true) (hn : es.length < nMax)
    (kk : ∀ (q : Option Addr) (c : Nat) (w' : World), Hid (St X w0 w' (x :: I.set i (lsI (.slice q (es.length + 1) c) (es ++ [.mk k p n nm es2])))) → K (a.put o.dst (.slice q (es.length + 1) c)) w') : Oper.wp Tryz.prog o a w K Q := by
  obtain ⟨xs, hs⟩ := appE_pre h.sep hi
  have h1 : St X w0 w (ownI 55 5 v es.length xs :: elI es xs :: x :: .row b3 55 (exA k p n nm v2) :: lsI v2 es2 :: I.eraseIdx i) := ⟨h.gd, h.rest, hs⟩
  refine wp_append h1 0 3 ho rfl rfl hu exEl rfl (exOne h12) hn ?_
  intro v' w' hs' h13
  have hs2 : St X w0 w' (ownI 55 5 v' (es.length + 1) (xs ++ (exA k p n nm v2).toList) :: elI es xs :: x :: .row b3 55 (exA k p n nm v2) :: lsI v2 es2 :: I.eraseIdx i) := hs'.out
  obtain ⟨q, c, rfl⟩ := hs2.ownLen 0 rfl
  exact kk q c w' (Lib.hid (hs2.to fun P h => appE_post hi h))
theorem wpl_appE (h : St X w0 w (x :: .row b3 55 (exA k p n nm v2) :: lsI v2 es2 :: I)) (i : Nat) (hi : I[i]? = some (lsI v es)) (ho : apOf a o = some ([v, .slice (some ⟨b3, 0, none⟩) 1 1], [t, t])) (hu : Tryz.prog.underlying t = some (.slice 55)) (h12 : v2.oneCell' = true) (hn : es.length < nMax)
    (kk : ∀ (q : Option Addr) (c : Nat) (w' : World), Hid (St X w0 w' (x :: I.set i (lsI (.slice q (es.length + 1) c) (es ++ [.mk k p n nm es2])))) → wpList Tryz.prog ops Q rest (a.put o.dst (.slice q (es.length + 1) c)) w') : wpList Tryz.prog ops Q (o :: rest) a w := by
  obtain ⟨xs, hs⟩ := appE_pre h.sep hi
  have h1 : St X w0 w (ownI 55 5 v es.length xs :: elI es xs :: x :: .row b3 55 (exA k p n nm v2) :: lsI v2 es2 :: I.eraseIdx i) := ⟨h.gd, h.rest, hs⟩
  refine wpl_append h1 0 3 ho rfl rfl hu exEl rfl (exOne h12) hn ?_
  intro v' w' hs' h13
  have hs2 : St X w0 w' (ownI 55 5 v' (es.length + 1) (xs ++ (exA k p n nm v2).toList) :: elI es xs :: x :: .row b3 55 (exA k p n nm v2) :: lsI v2 es2 :: I.eraseIdx i) := hs'.out
  obtain ⟨q, c, rfl⟩ := hs2.ownLen 0 rfl
  exact kk q c w' (Lib.hid (hs2.to fun P h => appE_post hi h))
end
/-- how many elements the slice in an expression's fifth cell has -/
def eLen (b : Nat) (w : World) : Nat := match w.cell? ⟨b, 4, none⟩ with | some (.slice _ n _) => n | _ => 0
theorem St.eLen {X : Nat → Prop} {w0 w : World} {I : List It} (h : St X w0 w I) (i : Nat) {b : Nat} {cs : Array Value} (hi : I[i]? = some (.row b 55 cs)) {q : Option Addr} {n c : Nat} (hc : cs[4]? = some (.slice q n c)) : eLen b w = n := by
  unfold Go.Proofs.YtjfdcnggnldgdaaGreatDoor.eLen; rw [h.cell i hi, hc]
/-- what the document's reader of an expression hands back -/
def REP (b : Nat) (L : List Lx.Tok) (r : Sx.E × Sx.R) (e : Ending) (J : List It) : Prop :=
  ∃ (k p n : Int) (nm : List UInt8) (v : Value) (es : List Sx.E), e = .returned (.agg #[.int .i64 k, .int .i64 p, .int .i64 n, .string (Lx.S nm), v]) ∧ J = [rr b L r.2, lsI v es] ∧ (r.2.err = 0 → r.1 = .mk k p n nm es) ∧ v.oneCell' = true
def rCX (b : Nat) (L : List Lx.Tok) (t : Nat) (σ : Sx.R) : Prop := Fn 185 #[.pointer (some ⟨b, 0, none⟩), .int .i64 (t : Int)] [rr b L σ] (REP b L (Sx.X L t σ))
def rCU (b : Nat) (L : List Lx.Tok) (σ : Sx.R) : Prop := Fn 218 #[.pointer (some ⟨b, 0, none⟩)] [rr b L σ] (REP b L (Sx.U L σ))
set_option maxHeartbeats 8000000 in
set_option maxRecDepth 100000 in
theorem rbehind_bare (b : Nat) (L : List Lx.Tok) (hL : Sx.Ok L) (τ : Sx.R) (t : Lx.Tok) (h1 : Sx.sees L [40] τ = false) (h2 : Sx.sees L [91] τ = false) : Fn 220 #[.pointer (some ⟨b, 0, none⟩), .agg (tkA t.kind t.pos t.num (Lx.S t.text))] [rr b L τ] (REP b L (Sx.Bh L t τ)) := by
  intro w P hP h0
  have HS := Lib.hid (St.start hP h0)
  have hat := HS.out.rat
  have ho0 := HS.out.ropn0
  have C1 := Lib.hid (rsees_fn b L τ [40])
  rw [h1] at C1
  have C2 := Lib.hid (rsees_fn b L τ [91])
  rw [h2] at C2
  rw [Sx.Bh_bare hL.ends t hat h1 h2]
  clear h0 hP hL hat ho0 h1 h2
  go_enter Tryz.func220, Tryz.ntmps220
  go_wp2_with (first
    | (refine wpl_box HS.out rfl rfl ?_; intro b_n w1 HS1; clear HS)
    | (refine wpl_alloc HS1.out _ rfl exZ ?_; intro b_r w2 HS2; clear HS1)
    | (refine wpl_load HS2.out 2 rfl rfl intO rfl ?_)
    | (refine wpl_load HS2.out 2 rfl rfl strO rfl ?_)
    | (refine wpl_alloc HS2.out _ rfl exZ ?_; intro b_x w3 HS3; clear HS2)
    | (refine wpl_storeS HS3.out 1 rfl rfl exT rfl (fitsX rfl) ?_; intro w4 hs; have HS4 := Lib.hid (show St _ _ _ (_ :: _ :: _ :: _ :: []) from hs.out); clear hs HS3)
    | (go_at_call 67; refine (HS4.out.call1 C1.out).mono ?_; rintro e w5 ⟨J, ⟨rfl, rfl⟩, hs⟩; simp only [List.cons_append, List.nil_append] at hs; have HS5 := Lib.hid hs; clear hs HS4)
    | (go_at_call 67; refine (HS5.out.call1 C2.out).mono ?_; rintro e w6 ⟨J, ⟨rfl, rfl⟩, hs⟩; simp only [List.cons_append, List.nil_append] at hs; have HS6 := Lib.hid hs; clear hs HS5)
    | (refine wpl_loadS HS6.out 1 rfl rfl exT rfl ?_)
    | (refine wpl_storeS HS6.out 2 rfl rfl exT rfl (fitsX rfl) ?_; intro w7 hs; have HS7 := Lib.hid (show St _ _ _ (_ :: _ :: _ :: _ :: []) from hs.out); clear hs HS6))
  refine bp_cell HS7.out 2 exT rfl rfl rfl rfl rfl ⟨_, ⟨2, t.pos, 0, t.text, _, [], rfl, rfl, fun _ => rfl, rfl⟩, (HS7.out.sel [0] rfl).to fun P h => h.under fun P h => lsI_nil h⟩
set_option maxHeartbeats 8000000 in
set_option maxRecDepth 100000 in
theorem rbehind_none (b : Nat) (L : List Lx.Tok) (hL : Sx.Ok L) (τ : Sx.R) (t : Lx.Tok) (h1 : Sx.sees L [40] τ = true) (h2 : Sx.sees L [41] (Sx.nest L [40] τ) = true) : Fn 220 #[.pointer (some ⟨b, 0, none⟩), .agg (tkA t.kind t.pos t.num (Lx.S t.text))] [rr b L τ] (REP b L (Sx.Bh L t τ)) := by
  intro w P hP h0
  have HS := Lib.hid (St.start hP h0)
  have hat := HS.out.rat
  have ho0 := HS.out.ropn0
  have C1 := Lib.hid (rsees_fn b L τ [40])
  have hop : (Sx.nest L [40] τ).opn = τ.opn + 1 := Sx.op_nest L [40] τ
  have herr0 : (Sx.nest L [40] τ).err = 0 → τ.err = 0 := fun h => Sx.nest_err hL (by decide) h
  have hn1 := (Sx.le_nest hL.ends [40] (by decide) τ).2.2.1 hat
  have hM1 := Sx.M_le (Sx.le_nest hL.ends [40] (by decide) τ)
  have C2 := Lib.hid (rnest_fn b L hL τ [40] (by decide))
  rw [h1] at C1
  rw [Sx.Bh_call hL.ends t hat h1]
  have hA : Sx.Ar L 0 (Sx.nest L [40] τ) = ([], Sx.nest L [40] τ) := by unfold Sx.Ar; rw [if_pos rfl, if_pos h2]
  rw [hA]
  have C3 := Lib.hid (rsees_fn b L (Sx.nest L [40] τ) [41])
  rw [h2] at C3
  have C4 := Lib.hid (runnest_fn b L hL (Sx.nest L [40] τ) [41] (by decide) (fun h => by
    have h3 := ho0 (herr0 (Sx.unnest_err (s := [41]) h))
    rw [hop]; omega))
  clear h0 hP hL hat ho0 h1 h2 hop herr0 hn1 hM1 hA
  go_enter Tryz.func220, Tryz.ntmps220
  go_wp2_with (first
    | (refine wpl_box HS.out rfl rfl ?_; intro b_n w1 HS1; clear HS)
    | (refine wpl_alloc HS1.out _ rfl exZ ?_; intro b_r w2 HS2; clear HS1)
    | (refine wpl_load HS2.out 2 rfl rfl intO rfl ?_)
    | (refine wpl_load HS2.out 2 rfl rfl strO rfl ?_)
    | (refine wpl_alloc HS2.out _ rfl exZ ?_; intro b_x w3 HS3; clear HS2)
    | (refine wpl_storeS HS3.out 1 rfl rfl exT rfl (fitsX rfl) ?_; intro w4 hs; have HS4 := Lib.hid (show St _ _ _ (_ :: _ :: _ :: _ :: []) from hs.out); clear hs HS3)
    | (go_at_call 67; refine (HS4.out.call1 C1.out).mono ?_; rintro e w5 ⟨J, ⟨rfl, rfl⟩, hs⟩; simp only [List.cons_append, List.nil_append] at hs; have HS5 := Lib.hid hs; clear hs HS4)
    | (refine wpl_store HS5.out 1 rfl rfl intO (of_decide_eq_true rfl) rfl ?_; intro w6 hs; have HS6 := Lib.hid (show St _ _ _ (_ :: _ :: _ :: _ :: []) from hs.out); clear hs HS5)
    | (go_at_call 133; refine (HS6.out.call1 C2.out).mono ?_; rintro e w7 ⟨J, ⟨rfl, rfl⟩, hs⟩; simp only [List.cons_append, List.nil_append] at hs; have HS7 := Lib.hid hs; clear hs HS6)
    | (go_at_call 67; refine (HS7.out.call1 C3.out).mono ?_; rintro e w8 ⟨J, ⟨rfl, rfl⟩, hs⟩; simp only [List.cons_append, List.nil_append] at hs; have HS8 := Lib.hid hs; clear hs HS7)
    | (go_at_call 135; refine (HS8.out.call1 C4.out).mono ?_; rintro e w9 ⟨J, ⟨rfl, rfl⟩, hs⟩; simp only [List.cons_append, List.nil_append] at hs; have HS9 := Lib.hid hs; clear hs HS8)
    | (refine wpl_loadS HS9.out 1 rfl rfl exT rfl ?_)
    | (refine wpl_storeS HS9.out 2 rfl rfl exT rfl (fitsX rfl) ?_; intro w10 hs; have HS10 := Lib.hid (show St _ _ _ (_ :: _ :: _ :: _ :: []) from hs.out); clear hs HS9))
  refine bp_cell HS10.out 2 exT rfl rfl rfl rfl rfl ⟨_, ⟨4, t.pos, 0, t.text, _, [], rfl, rfl, fun _ => rfl, rfl⟩, (HS10.out.sel [0] rfl).to fun P h => h.under fun P h => lsI_nil h⟩
set_option maxHeartbeats 8000000 in
set_option maxRecDepth 100000 in
theorem rbehind_index (b : Nat) (L : List Lx.Tok) (hL : Sx.Ok L) (τ : Sx.R) (t : Lx.Tok) (hE : ∀ ρ, Sx.M L ρ ≤ Sx.M L τ → rCX b L 0 ρ) (h1 : Sx.sees L [40] τ = false) (h2 : Sx.sees L [91] τ = true) : Fn 220 #[.pointer (some ⟨b, 0, none⟩), .agg (tkA t.kind t.pos t.num (Lx.S t.text))] [rr b L τ] (REP b L (Sx.Bh L t τ)) := by
  intro w P hP h0
  have HS := Lib.hid (St.start hP h0)
  have hat := HS.out.rat
  have ho0 := HS.out.ropn0
  have C1 := Lib.hid (rsees_fn b L τ [40])
  have hop : (Sx.nest L [91] τ).opn = τ.opn + 1 := Sx.op_nest L [91] τ
  have herr0 : (Sx.nest L [91] τ).err = 0 → τ.err = 0 := fun h => Sx.nest_err hL (by decide) h
  have hn1 := (Sx.le_nest hL.ends [91] (by decide) τ).2.2.1 hat
  have hM1 := Sx.M_le (Sx.le_nest hL.ends [91] (by decide) τ)
  have C2 := Lib.hid (rnest_fn b L hL τ [91] (by decide))
  rw [h1] at C1
  rw [Sx.Bh_index hL.ends t hat h2]
  have C5 := Lib.hid (rsees_fn b L τ [91])
  rw [h2] at C5
  have CX := Lib.hid (hE (Sx.nest L [91] τ) hM1)
  have C4 := Lib.hid (runnest_fn b L hL (Sx.X L 0 (Sx.nest L [91] τ)).2 [93] (by decide) (fun h => by
    have h1 : (Sx.X L 0 (Sx.nest L [91] τ)).2.err = 0 := Sx.unnest_err (s := [93]) h
    have h2 : (Sx.nest L [91] τ).err = 0 := by
      apply Classical.byContradiction
      intro h3
      rw [Sx.X_err hL.ends hn1 h3] at h1
      exact h3 h1
    have := ho0 (herr0 h2)
    rw [Sx.op_X, hop]; omega))
  have hz0 : ([] : List Sx.E).length < nMax := by unfold nMax; decide
  clear h0 hP hL hat ho0 h1 h2 hop herr0 hn1 hM1 hE
  go_enter Tryz.func220, Tryz.ntmps220
  go_wp2_with (first
    | (refine wpl_box HS.out rfl rfl ?_; intro b_n w1 HS1; clear HS)
    | (refine wpl_alloc HS1.out _ rfl exZ ?_; intro b_r w2 HS2; clear HS1)
    | (refine wpl_load HS2.out 2 rfl rfl intO rfl ?_)
    | (refine wpl_load HS2.out 2 rfl rfl strO rfl ?_)
    | (refine wpl_alloc HS2.out _ rfl exZ ?_; intro b_x w3 HS3; clear HS2)
    | (refine wpl_storeS HS3.out 1 rfl rfl exT rfl (fitsX rfl) ?_; intro w4 hs; have HS4 := Lib.hid (show St _ _ _ (_ :: _ :: _ :: _ :: []) from hs.out); clear hs HS3)
    | (go_at_call 67; refine (HS4.out.call1 C1.out).mono ?_; rintro e w5 ⟨J, ⟨rfl, rfl⟩, hs⟩; simp only [List.cons_append, List.nil_append] at hs; have HS5 := Lib.hid hs; clear hs HS4)
    | (go_at_call 67; refine (HS5.out.call1 C5.out).mono ?_; rintro e w6 ⟨J, ⟨rfl, rfl⟩, hs⟩; simp only [List.cons_append, List.nil_append] at hs; have HS6 := Lib.hid hs; clear hs HS5)
    | (refine wpl_store HS6.out 1 rfl rfl intO (of_decide_eq_true rfl) rfl ?_; intro w7 hs; have HS7 := Lib.hid (show St _ _ _ (_ :: _ :: _ :: _ :: []) from hs.out); clear hs HS6)
    | (go_at_call 133; refine (HS7.out.call1 C2.out).mono ?_; rintro e w8 ⟨J, ⟨rfl, rfl⟩, hs⟩; simp only [List.cons_append, List.nil_append] at hs; have HS8 := Lib.hid hs; clear hs HS7; have HS9 := Lib.hid (HS8.out.to fun P h => h.under fun P h => lsI_nil h); clear HS8))
  refine wp_region_held_drew (S := fun _ => True) (by kernel_rfl) (trivial) (fun hHeld => ?_)
  refine tkH 0 ?_
  refine tkH 2 ?_
  refine wpAnyH_ready (rs := [1, 3]) (by kernel_rfl) (by simp) ?_
  refine AllReadyH.cons rfl (fun K hK => ?_) (AllReadyH.cons rfl (fun K hK => ?_) AllReadyH.nil)
  · (refine wp_load1 HS9.out.drew 2 rfl rfl exprsO rfl ?_)
    refine hK.out _ _ (trivial) (fun hHeld => ?_)
    clear hK K
    (try simp only [Act.put, List.setIfInBounds_toArray, List.set_cons_zero, List.set_cons_succ, List.getElem_toArray, List.getElem_cons_succ, List.getElem_cons_zero])
    refine wpAnyH_ready (rs := [3]) (by kernel_rfl) (by simp) ?_
    refine AllReadyH.cons rfl (fun K hK => ?_) AllReadyH.nil
    go_simp
    (go_at_call 185; refine (HS9.out.drew.call1 CX.out).mono ?_; rintro e w10 ⟨J, ⟨k_a, p_a, n_a, nm_a, v_a, es_a, rfl, rfl, hx_a, h1_a⟩, hs⟩; simp only [List.cons_append, List.nil_append] at hs; have HS10 := Lib.hid hs; have HX_a := Lib.hid hx_a; clear hs hx_a)
    refine hK.out _ _ (trivial) (fun hHeld => ?_)
    clear hK K
    (try simp only [Act.put, List.setIfInBounds_toArray, List.set_cons_zero, List.set_cons_succ, List.getElem_toArray, List.getElem_cons_succ, List.getElem_cons_zero])
    refine wpAnyH_ready (rs := [4]) (by kernel_rfl) (by simp) ?_
    refine AllReadyH.cons rfl (fun K hK => ?_) AllReadyH.nil
    (refine wp_slice HS10.out rfl Tryz.underlying51 (exB _ _ _ _ _) ?_; intro b_a w11 hs; have HS11 := Lib.hid (show St _ _ _ (_ :: _ :: _ :: _ :: _ :: _ :: _ :: []) from hs.out); clear hs)
    refine hK.out _ _ (trivial) (fun hHeld => ?_)
    clear hK K
    (try simp only [Act.put, List.setIfInBounds_toArray, List.set_cons_zero, List.set_cons_succ, List.getElem_toArray, List.getElem_cons_succ, List.getElem_cons_zero])
    refine wpAnyH_ready (rs := [5]) (by kernel_rfl) (by simp) ?_
    refine AllReadyH.cons rfl (fun K hK => ?_) AllReadyH.nil
    (refine wp_appE HS11.out 0 rfl rfl Tryz.underlying51 h1_a hz0 ?_; intro q_a c_a w12 hs; have HS12 := Lib.hid (show St _ _ _ (_ :: _ :: _ :: _ :: _ :: []) from hs.out); clear hs)
    refine hK.out _ _ (trivial) (fun hHeld => ?_)
    clear hK K
    (try simp only [Act.put, List.setIfInBounds_toArray, List.set_cons_zero, List.set_cons_succ, List.getElem_toArray, List.getElem_cons_succ, List.getElem_cons_zero])
    refine tkH 6 ?_
    refine wpAnyH_ready (rs := [7]) (by kernel_rfl) (by simp) ?_
    refine AllReadyH.cons rfl (fun K hK => ?_) AllReadyH.nil
    (refine wp_store1 HS12.out 2 rfl rfl exprsO (of_decide_eq_true rfl) rfl ?_; intro w13 hs; have HS13 := Lib.hid (show St _ _ _ (_ :: _ :: _ :: _ :: _ :: []) from hs.out); clear hs)
    refine hK.out _ _ (trivial) (fun hHeld => ?_)
    clear hK K
    (try simp only [Act.put, List.setIfInBounds_toArray, List.set_cons_zero, List.set_cons_succ, List.getElem_toArray, List.getElem_cons_succ, List.getElem_cons_zero])
    refine wpAnyH_done (by kernel_rfl) ?_ _
    go_wp2_with (first
      | (go_at_call 135; refine (HS13.out.call1 C4.out).mono ?_; rintro e w14 ⟨J, ⟨rfl, rfl⟩, hs⟩; simp only [List.cons_append, List.nil_append] at hs; have HS14 := Lib.hid hs; clear hs HS13)
      | (refine wpl_loadS HS14.out 2 rfl rfl exT rfl ?_)
      | (refine wpl_storeS HS14.out 3 rfl rfl exT rfl (fitsX rfl) ?_; intro w15 hs; have HS15 := Lib.hid (show St _ _ _ (_ :: _ :: _ :: _ :: _ :: []) from hs.out); clear hs HS14))
    refine bp_cell HS15.out 3 exT rfl rfl rfl rfl rfl ⟨_, ⟨3, t.pos, 0, t.text, _, [.mk k_a p_a n_a nm_a es_a], rfl, rfl, fun h => ?_, rfl⟩, HS15.out.sel [0, 0] rfl⟩
    exact congrArg (fun z => Sx.E.mk 3 t.pos 0 t.text [z]) (HX_a.out (Sx.unnest_err h))
  · go_simp
    (go_at_call 185; refine (HS9.out.drew.call1 CX.out).mono ?_; rintro e w10 ⟨J, ⟨k_a, p_a, n_a, nm_a, v_a, es_a, rfl, rfl, hx_a, h1_a⟩, hs⟩; simp only [List.cons_append, List.nil_append] at hs; have HS10 := Lib.hid hs; have HX_a := Lib.hid hx_a; clear hs hx_a)
    refine hK.out _ _ (trivial) (fun hHeld => ?_)
    clear hK K
    (try simp only [Act.put, List.setIfInBounds_toArray, List.set_cons_zero, List.set_cons_succ, List.getElem_toArray, List.getElem_cons_succ, List.getElem_cons_zero])
    refine wpAnyH_ready (rs := [1, 4]) (by kernel_rfl) (by simp) ?_
    refine AllReadyH.cons rfl (fun K hK => ?_) (AllReadyH.cons rfl (fun K hK => ?_) AllReadyH.nil)
    · (refine wp_load1 HS10.out 3 rfl rfl exprsO rfl ?_)
      refine hK.out _ _ (trivial) (fun hHeld => ?_)
      clear hK K
      (try simp only [Act.put, List.setIfInBounds_toArray, List.set_cons_zero, List.set_cons_succ, List.getElem_toArray, List.getElem_cons_succ, List.getElem_cons_zero])
      refine wpAnyH_ready (rs := [4]) (by kernel_rfl) (by simp) ?_
      refine AllReadyH.cons rfl (fun K hK => ?_) AllReadyH.nil
      (refine wp_slice HS10.out rfl Tryz.underlying51 (exB _ _ _ _ _) ?_; intro b_a w11 hs; have HS11 := Lib.hid (show St _ _ _ (_ :: _ :: _ :: _ :: _ :: _ :: _ :: []) from hs.out); clear hs)
      refine hK.out _ _ (trivial) (fun hHeld => ?_)
      clear hK K
      (try simp only [Act.put, List.setIfInBounds_toArray, List.set_cons_zero, List.set_cons_succ, List.getElem_toArray, List.getElem_cons_succ, List.getElem_cons_zero])
      refine wpAnyH_ready (rs := [5]) (by kernel_rfl) (by simp) ?_
      refine AllReadyH.cons rfl (fun K hK => ?_) AllReadyH.nil
      (refine wp_appE HS11.out 0 rfl rfl Tryz.underlying51 h1_a hz0 ?_; intro q_a c_a w12 hs; have HS12 := Lib.hid (show St _ _ _ (_ :: _ :: _ :: _ :: _ :: []) from hs.out); clear hs)
      refine hK.out _ _ (trivial) (fun hHeld => ?_)
      clear hK K
      (try simp only [Act.put, List.setIfInBounds_toArray, List.set_cons_zero, List.set_cons_succ, List.getElem_toArray, List.getElem_cons_succ, List.getElem_cons_zero])
      refine tkH 6 ?_
      refine wpAnyH_ready (rs := [7]) (by kernel_rfl) (by simp) ?_
      refine AllReadyH.cons rfl (fun K hK => ?_) AllReadyH.nil
      (refine wp_store1 HS12.out 2 rfl rfl exprsO (of_decide_eq_true rfl) rfl ?_; intro w13 hs; have HS13 := Lib.hid (show St _ _ _ (_ :: _ :: _ :: _ :: _ :: []) from hs.out); clear hs)
      refine hK.out _ _ (trivial) (fun hHeld => ?_)
      clear hK K
      (try simp only [Act.put, List.setIfInBounds_toArray, List.set_cons_zero, List.set_cons_succ, List.getElem_toArray, List.getElem_cons_succ, List.getElem_cons_zero])
      refine wpAnyH_done (by kernel_rfl) ?_ _
      go_wp2_with (first
        | (go_at_call 135; refine (HS13.out.call1 C4.out).mono ?_; rintro e w14 ⟨J, ⟨rfl, rfl⟩, hs⟩; simp only [List.cons_append, List.nil_append] at hs; have HS14 := Lib.hid hs; clear hs HS13)
        | (refine wpl_loadS HS14.out 2 rfl rfl exT rfl ?_)
        | (refine wpl_storeS HS14.out 3 rfl rfl exT rfl (fitsX rfl) ?_; intro w15 hs; have HS15 := Lib.hid (show St _ _ _ (_ :: _ :: _ :: _ :: _ :: []) from hs.out); clear hs HS14))
      refine bp_cell HS15.out 3 exT rfl rfl rfl rfl rfl ⟨_, ⟨3, t.pos, 0, t.text, _, [.mk k_a p_a n_a nm_a es_a], rfl, rfl, fun h => ?_, rfl⟩, HS15.out.sel [0, 0] rfl⟩
      exact congrArg (fun z => Sx.E.mk 3 t.pos 0 t.text [z]) (HX_a.out (Sx.unnest_err h))
    · (refine wp_slice HS10.out rfl Tryz.underlying51 (exB _ _ _ _ _) ?_; intro b_a w11 hs; have HS11 := Lib.hid (show St _ _ _ (_ :: _ :: _ :: _ :: _ :: _ :: _ :: []) from hs.out); clear hs)
      refine hK.out _ _ (trivial) (fun hHeld => ?_)
      clear hK K
      (try simp only [Act.put, List.setIfInBounds_toArray, List.set_cons_zero, List.set_cons_succ, List.getElem_toArray, List.getElem_cons_succ, List.getElem_cons_zero])
      refine wpAnyH_ready (rs := [1]) (by kernel_rfl) (by simp) ?_
      refine AllReadyH.cons rfl (fun K hK => ?_) AllReadyH.nil
      (refine wp_load1 HS11.out 4 rfl rfl exprsO rfl ?_)
      refine hK.out _ _ (trivial) (fun hHeld => ?_)
      clear hK K
      (try simp only [Act.put, List.setIfInBounds_toArray, List.set_cons_zero, List.set_cons_succ, List.getElem_toArray, List.getElem_cons_succ, List.getElem_cons_zero])
      refine wpAnyH_ready (rs := [5]) (by kernel_rfl) (by simp) ?_
      refine AllReadyH.cons rfl (fun K hK => ?_) AllReadyH.nil
      (refine wp_appE HS11.out 0 rfl rfl Tryz.underlying51 h1_a hz0 ?_; intro q_a c_a w12 hs; have HS12 := Lib.hid (show St _ _ _ (_ :: _ :: _ :: _ :: _ :: []) from hs.out); clear hs)
      refine hK.out _ _ (trivial) (fun hHeld => ?_)
      clear hK K
      (try simp only [Act.put, List.setIfInBounds_toArray, List.set_cons_zero, List.set_cons_succ, List.getElem_toArray, List.getElem_cons_succ, List.getElem_cons_zero])
      refine tkH 6 ?_
      refine wpAnyH_ready (rs := [7]) (by kernel_rfl) (by simp) ?_
      refine AllReadyH.cons rfl (fun K hK => ?_) AllReadyH.nil
      (refine wp_store1 HS12.out 2 rfl rfl exprsO (of_decide_eq_true rfl) rfl ?_; intro w13 hs; have HS13 := Lib.hid (show St _ _ _ (_ :: _ :: _ :: _ :: _ :: []) from hs.out); clear hs)
      refine hK.out _ _ (trivial) (fun hHeld => ?_)
      clear hK K
      (try simp only [Act.put, List.setIfInBounds_toArray, List.set_cons_zero, List.set_cons_succ, List.getElem_toArray, List.getElem_cons_succ, List.getElem_cons_zero])
      refine wpAnyH_done (by kernel_rfl) ?_ _
      go_wp2_with (first
        | (go_at_call 135; refine (HS13.out.call1 C4.out).mono ?_; rintro e w14 ⟨J, ⟨rfl, rfl⟩, hs⟩; simp only [List.cons_append, List.nil_append] at hs; have HS14 := Lib.hid hs; clear hs HS13)
        | (refine wpl_loadS HS14.out 2 rfl rfl exT rfl ?_)
        | (refine wpl_storeS HS14.out 3 rfl rfl exT rfl (fitsX rfl) ?_; intro w15 hs; have HS15 := Lib.hid (show St _ _ _ (_ :: _ :: _ :: _ :: _ :: []) from hs.out); clear hs HS14))
      refine bp_cell HS15.out 3 exT rfl rfl rfl rfl rfl ⟨_, ⟨3, t.pos, 0, t.text, _, [.mk k_a p_a n_a nm_a es_a], rfl, rfl, fun h => ?_, rfl⟩, HS15.out.sel [0, 0] rfl⟩
      exact congrArg (fun z => Sx.E.mk 3 t.pos 0 t.text [z]) (HX_a.out (Sx.unnest_err h))
end Go.Proofs.YtjfdcnggnldgdaaGreatDoor
end
