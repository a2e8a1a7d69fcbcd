/-
  Law OutcomeApart: What is released is not wiped; two results that look the same from without mean the same; only what is released has an output.
  Conditions: none but those of the given row.
-/
import Derived.Test.YtpfljdcahhhggaaRows
import Derived.Test.YtpfljdcahhhggaaOcL
import Derived.WalkKit
import Derived.ProofKit
import Derived.OpenShut
import Derived.ShutString
import Derived.ChangeOld
import Derived.Below
import Derived.LoopN
import Derived.SizedLaws
import Derived.Deep.Cut
import Derived.Deep.CutRange
namespace Go.Proofs.Ytpfljdcahhhggaa.outcomeApart
open Go.ChangeShapes Go.WideShapes Go.ChangeAt Go.RowKit
open Go.ChangeMaps (open_string shut_string)
set_option linter.unusedVariables false
set_option linter.unusedSimpArgs false

theorem own : ownKnob Try.prog.godebug = none := by kernel_rfl
theorem laidOut : laidOutB Try.prog = true := by kernel_rfl

theorem apart_step {W wx w' : World} {b c d e : Nat} {h1 h2 : Bool} {st1 cy1 ha1 co1 su1 st2 cy2 ha2 co2 su2 i j : Int} {o1 a1 b1 o2 a2 b2 x y : ByteArray} (H : Below W.heap.size W wx ∧ Box9 wx b h1 st1 cy1 ha1 co1 su1 o1 a1 b1 ∧ Box9 wx c h2 st2 cy2 ha2 co2 su2 o2 a2 b2 ∧ Box2 wx d i x ∧ Box2 wx e j y) (hb : Below wx.heap.size wx w') : Below W.heap.size W w' ∧ Box9 w' b h1 st1 cy1 ha1 co1 su1 o1 a1 b1 ∧ Box9 w' c h2 st2 cy2 ha2 co2 su2 o2 a2 b2 ∧ Box2 w' d i x ∧ Box2 w' e j y :=
  ⟨H.1.trans (hb.mono H.1.size), H.2.1.kept hb, H.2.2.1.kept hb, H.2.2.2.1.kept hb, H.2.2.2.2.kept hb⟩
theorem rule_c {X w' : World} (hb : Below X.heap.size X w') (k j : Nat) (h : k < X.heap.size) : w'.cell? ⟨k, j, none⟩ = X.cell? ⟨k, j, none⟩ := hb.cell h
theorem rule_f {X w' : World} (hb : Below X.heap.size X w') (k j : Nat) (h : k < X.heap.size) : w'.frozen? ⟨k, j, none⟩ = X.frozen? ⟨k, j, none⟩ := hb.frozen h
theorem heap_last2 (w : World) (A B : Obj) : ((w.alloc A).alloc B).heap[w.heap.size + 1]? = some B := by
  have h := heap_alloc_new (w.alloc A) B
  rw [show (w.alloc A).heap.size = w.heap.size + 1 from Array.size_push _] at h
  exact h
theorem set_past {W : World} {p q : Nat} {B : Obj} (hq : W.heap[q]? = some B) (hne : q ≠ p) (v v' : Value) : ((W.setCell ⟨p, 0, none⟩ v).setCell ⟨p, 1, none⟩ v').heap[q]? = some B := heap_set_other (heap_set_other hq ⟨p, 0, none⟩ v hne) ⟨p, 1, none⟩ v' hne
theorem set_last (W : World) (a a' : Addr) (v v' : Value) (o : Obj) : (((W.setCell a v).setCell a' v').alloc o).heap[W.heap.size]? = some o := by
  have h := heap_alloc_new ((W.setCell a v).setCell a' v') o
  simp only [World.setCell, Array.size_modify] at h ⊢
  exact h
theorem Oc.kind_1 {h : Bool} {co su : Int} {o a b : ByteArray} (e : Oc.kind h co su = 1) : Oc.wiped co o a b = false := by
  unfold Oc.kind at e
  unfold Oc.wiped
  split at e
  · omega
  · split at e
    · rw [decide_eq_false (by omega)]; rfl
    · split at e <;> omega
theorem Oc.kind_no {h : Bool} {co su : Int} {o : ByteArray} (e : ¬ Oc.kind h co su = 1) : Oc.out h co o = ⟨#[]⟩ := by rw [out_if h co su o, if_neg e]
theorem Oc.same_eq {h1 h2 : Bool} {co1 co2 su1 su2 : Int} {o1 o2 : ByteArray} (e : Oc.same h1 h2 co1 co2 su1 su2 o1 o2 = true) : Oc.kind h1 co1 su1 = Oc.kind h2 co2 su2 ∧ Oc.out h1 co1 o1 = Oc.out h2 co2 o2 := by
  unfold Oc.same at e
  simp only [Bool.and_eq_true, beq_iff_eq] at e
  obtain ⟨⟨⟨rfl, rfl⟩, rfl⟩, e⟩ := e
  have e' : o1.data.toList = o2.data.toList := by rw [← ByteArray.toList_eq, ← ByteArray.toList_eq, e]
  have : o1 = o2 := ByteArray.ext (Array.toList_inj.1 e')
  subst this
  exact ⟨rfl, rfl⟩
theorem Oc.same_me (h : Bool) (co su : Int) (o : ByteArray) : Oc.same h h co co su su o o = true := by simp [Oc.same]
theorem Oc.same_swap (h1 h2 : Bool) (co1 co2 su1 su2 : Int) (o1 o2 : ByteArray) : Oc.same h2 h1 co2 co1 su2 su1 o2 o1 = Oc.same h1 h2 co1 co2 su1 su2 o1 o2 := by
  unfold Oc.same
  rw [BEq.comm (a := h2), BEq.comm (a := co2), BEq.comm (a := su2), BEq.comm (a := o2.toList)]
theorem heap_drew (w : World) : w.drew.heap = w.heap := rfl
theorem heap_g {X w' : World} {b : Nat} {o : Obj} (h : X.heap[b]? = some o) (g : ∀ k, k < X.heap.size → w'.heap[k]? = X.heap[k]?) : w'.heap[b]? = some o := by rw [g b (Array.getElem?_eq_some_iff.1 h).1]; exact h
theorem set_pair {W : World} {p q : Nat} {A B : Obj} (hp : W.heap[p]? = some A) (hq : W.heap[q]? = some B) (hne : q ≠ p) (v v' : Value) : ((W.setCell ⟨p, 0, none⟩ v).setCell ⟨p, 1, none⟩ v').heap[q]? = some B := heap_set_other (heap_set_other hq ⟨p, 0, none⟩ v hne) ⟨p, 1, none⟩ v' hne
theorem bel_any {W wx w' : World} (hb : Below wx.heap.size wx w') (h : Below W.heap.size W wx) : Below W.heap.size W w' := h.trans (hb.mono h.size)
theorem ap_of {W wx : World} {b c : Nat} {h1 h2 : Bool} {st1 cy1 ha1 co1 su1 st2 cy2 ha2 co2 su2 : Int} {o1 a1 b1 o2 a2 b2 : ByteArray} (HA : Hid (Box9 W b h1 st1 cy1 ha1 co1 su1 o1 a1 b1)) (HB : Hid (Box9 W c h2 st2 cy2 ha2 co2 su2 o2 a2 b2)) (h : Below W.heap.size W wx) : Below W.heap.size W wx ∧ Box9 wx b h1 st1 cy1 ha1 co1 su1 o1 a1 b1 ∧ Box9 wx c h2 st2 cy2 ha2 co2 su2 o2 a2 b2 := ⟨h, HA.out.kept h, HB.out.kept h⟩
theorem froz {W : World} {b : Nat} {cs : Array Value} {t : TypeId} (h : W.heap[b]? = some (.cells cs t (0, 0))) (k : Nat) : W.frozen? ⟨b, k, none⟩ = false := by simp [World.frozen?, h]
theorem lt_heap {W : World} {b : Nat} {o : Obj} (h : W.heap[b]? = some o) : b < W.heap.size := (Array.getElem?_eq_some_iff.1 h).1
theorem al_new {W0 W : World} {n : Nat} {o : Obj} (_ : Below n W0 (W.alloc o)) : (W.alloc o).heap[W.heap.size]? = some o := heap_alloc_new W o
theorem al_old {W0 W : World} {n b : Nat} {o o' : Obj} (h : W.heap[b]? = some o) (_ : Below n W0 (W.alloc o')) : (W.alloc o').heap[b]? = some o := heap_alloc_old h o'
theorem bel_set {W0 W : World} {n m : Nat} (h : Below n W0 W) (hm : n ≤ m) (v v' : Value) : Below n W0 ((W.setCell ⟨m, 0, none⟩ v).setCell ⟨m, 1, none⟩ v') := (h.setCell (p := ⟨m, 0, none⟩) hm v).setCell (p := ⟨m, 1, none⟩) hm v'
theorem set_four {W : World} {p q : Nat} {x0 x1 y0 y1 : Value} {t : TypeId} (hp : W.heap[p]? = some (.cells #[x0, x1] t (0, 0))) (hq : W.heap[q]? = some (.cells #[y0, y1] t (0, 0))) (hne : q ≠ p) (i j : Int) (a b : ByteArray) :
    Box2 ((((W.setCell ⟨p, 0, none⟩ (.int .i64 i)).setCell ⟨p, 1, none⟩ (.string a)).setCell ⟨q, 0, none⟩ (.int .i64 j)).setCell ⟨q, 1, none⟩ (.string b)) p i a ∧ Box2 ((((W.setCell ⟨p, 0, none⟩ (.int .i64 i)).setCell ⟨p, 1, none⟩ (.string a)).setCell ⟨q, 0, none⟩ (.int .i64 j)).setCell ⟨q, 1, none⟩ (.string b)) q j b :=
  ⟨Box2.of (set_past (set_two hp _ _) hne.symm _ _), Box2.of (set_two (set_pair hp hq hne _ _) _ _)⟩
set_option maxHeartbeats 8000000 in
theorem walk (xh0 : Bool) (xt0 xc0 xa0 xm0 xs0 : Int) (xo0 xp0 xq0 : ByteArray) (xh1 : Bool) (xt1 xc1 xa1 xm1 xs1 : Int) (xo1 xp1 xq1 : ByteArray) (zo0 : xo0.size ≤ 281474976710656) (zp0 : xp0.size ≤ 281474976710656) (zq0 : xq0.size ≤ 281474976710656) (zo1 : xo1.size ≤ 281474976710656) (zp1 : xp1.size ≤ 281474976710656) (zq1 : xq1.size ≤ 281474976710656) (w : World) :
    Calls Try.prog 5 #[.agg #[.bool xh0, .int .i64 xt0, .int .i64 xc0, .int .i64 xa0, .int .i64 xm0, .int .i64 xs0, .string xo0, .string xp0, .string xq0], .agg #[.bool xh1, .int .i64 xt1, .int .i64 xc1, .int .i64 xa1, .int .i64 xm1, .int .i64 xs1, .string xo1, .string xp1, .string xq1]] w fun e w' => e = .returned (.bool true) ∧ Below w.heap.size w w' := by
  have C1 := Lib.hid fun w => of_any xh0 xt0 xc0 xa0 xm0 xs0 xo0 xp0 xq0 w zo0
  have C2 := Lib.hid fun w => of_any xh1 xt1 xc1 xa1 xm1 xs1 xo1 xp1 xq1 w zo1
  have C3 := Lib.hid fun w => wiped_any xh0 xt0 xc0 xa0 xm0 xs0 xo0 xp0 xq0 w zo0 zp0 zq0
  have C5 := Lib.hid lives_any
  have D1 := Lib.hid fun w => same_any xh0 xt0 xc0 xa0 xm0 xs0 xo0 xp0 xq0 xh1 xt1 xc1 xa1 xm1 xs1 xo1 xp1 xq1 w
  have D2 := Lib.hid fun w => same_any xh0 xt0 xc0 xa0 xm0 xs0 xo0 xp0 xq0 xh0 xt0 xc0 xa0 xm0 xs0 xo0 xp0 xq0 w
  have D3 := Lib.hid fun w => same_any xh1 xt1 xc1 xa1 xm1 xs1 xo1 xp1 xq1 xh0 xt0 xc0 xa0 xm0 xs0 xo0 xp0 xq0 w
  rw [Oc.same_me] at D2
  rw [Oc.same_swap] at D3
  have HS := Lib.hid (Oc.same_eq (h1 := xh0) (h2 := xh1) (co1 := xm0) (co2 := xm1) (su1 := xs0) (su2 := xs1) (o1 := xo0) (o2 := xo1))
  have HK := Lib.hid (Oc.kind_1 (h := xh0) (co := xm0) (su := xs0) (o := xo0) (a := xp0) (b := xq0))
  have HN := Lib.hid (Oc.kind_no (h := xh0) (co := xm0) (su := xs0) (o := xo0))
  generalize Oc.same xh0 xh1 xm0 xm1 xs0 xs1 xo0 xo1 = Y at *
  clear zo0 zp0 zq0 zo1 zp1 zq1
  generalize Oc.kind xh0 xm0 xs0 = K at *
  generalize Oc.out xh0 xm0 xo0 = O at *
  generalize Oc.wiped xm0 xo0 xp0 xq0 = Z at *
  generalize Oc.kind xh1 xm1 xs1 = K2 at *
  generalize Oc.out xh1 xm1 xo1 = O2 at *
  go_enter Try.func5, Try.ntmps5
  go_upto_region 1 with fail
  go_cut [5, 6] from 7 to 10 (fun p q wx => ∃ m n : Nat, p = .pointer (some ⟨m, 0, none⟩) ∧ q = .pointer (some ⟨n, 0, none⟩) ∧ Below w.heap.size w wx ∧ Box9 wx w.heap.size xh0 xt0 xc0 xa0 xm0 xs0 xo0 xp0 xq0 ∧ Box9 wx (w.heap.size + 1) xh1 xt1 xc1 xa1 xm1 xs1 xo1 xp1 xq1 ∧ Box2 wx m K O ∧ Box2 wx n K2 O2)
  case first =>
    have hl := heap_last2 w (.cells #[.bool xh0, .int .i64 xt0, .int .i64 xc0, .int .i64 xa0, .int .i64 xm0, .int .i64 xs0, .string xo0, .string xp0, .string xq0] 23) (.cells #[.bool xh1, .int .i64 xt1, .int .i64 xc1, .int .i64 xa1, .int .i64 xm1, .int .i64 xs1, .string xo1, .string xp1, .string xq1] 23)
    have hk := heap_alloc_old (heap_alloc_new w (.cells #[.bool xh0, .int .i64 xt0, .int .i64 xc0, .int .i64 xa0, .int .i64 xm0, .int .i64 xs0, .string xo0, .string xp0, .string xq0] 23)) (.cells #[.bool xh1, .int .i64 xt1, .int .i64 xc1, .int .i64 xa1, .int .i64 xm1, .int .i64 xs1, .string xo1, .string xp1, .string xq1] 23)
    have HW : Hid (Below w.heap.size w ((w.alloc (.cells #[.bool xh0, .int .i64 xt0, .int .i64 xc0, .int .i64 xa0, .int .i64 xm0, .int .i64 xs0, .string xo0, .string xp0, .string xq0] 23)).alloc (.cells #[.bool xh1, .int .i64 xt1, .int .i64 xc1, .int .i64 xa1, .int .i64 xm1, .int .i64 xs1, .string xo1, .string xp1, .string xq1] 23))) := Lib.hid (by go_grown)
    have BA := Lib.hid (Box9.of hk)
    have BB := Lib.hid (Box9.of hl)
    clear hl hk
    generalize ((w.alloc (.cells #[.bool xh0, .int .i64 xt0, .int .i64 xc0, .int .i64 xa0, .int .i64 xm0, .int .i64 xs0, .string xo0, .string xp0, .string xq0] 23)).alloc (.cells #[.bool xh1, .int .i64 xt1, .int .i64 xc1, .int .i64 xa1, .int .i64 xm1, .int .i64 xs1, .string xo1, .string xp1, .string xq1] 23)) = W at *
    refine wp_region_held_drew (S := fun wx => Below W.heap.size W wx ∧ Box9 wx w.heap.size xh0 xt0 xc0 xa0 xm0 xs0 xo0 xp0 xq0 ∧ Box9 wx (w.heap.size + 1) xh1 xt1 xc1 xa1 xm1 xs1 xo1 xp1 xq1) (by kernel_rfl) (ap_of BA BB (Below.refl _ _).drew) (fun hHeld => ?_)
    refine wpAnyH_take (i := 0) (v := ?_) rfl (by kernel_rfl) (by kernel_rfl) (by kernel_rfl) (fun _ _ _ h => h) (Or.inl ⟨by rfl, ?_⟩) (by assumption) ?_
    rotate_left
    · intro w hSw
      (try dsimp only at hSw)
      go_simp
      (try with_reducible rfl)
    (try simp only [Act.put, List.setIfInBounds_toArray, List.set_cons_zero, List.set_cons_succ, List.getElem_toArray, List.getElem_cons_succ, List.getElem_cons_zero])
    refine wpAnyH_take (i := 2) (v := ?_) rfl (by kernel_rfl) (by kernel_rfl) (by kernel_rfl) (fun _ _ _ h => h) (Or.inl ⟨by rfl, ?_⟩) (by assumption) ?_
    rotate_left
    · intro w hSw
      (try dsimp only at hSw)
      go_simp
      (try with_reducible rfl)
    (try simp only [Act.put, List.setIfInBounds_toArray, List.set_cons_zero, List.set_cons_succ, List.getElem_toArray, List.getElem_cons_succ, List.getElem_cons_zero])
    generalize W.drew = v0 at *
    refine wpAnyH_ready (rs := [1, 4, 5]) (by kernel_rfl) (by simp) ?_
    refine AllReadyH.cons rfl (fun KK hK => ?_) ?_
    · go_simp
      go_at_call 6; refine (C1.out _).mono ?_; rintro e v1 ⟨rfl, hb4⟩
      refine hK.out _ _ (ap_of BA BB (bel_any hb4 hHeld.1)) (fun hHeld => ?_)
      clear hK KK hb4
      (try simp only [Act.put, List.setIfInBounds_toArray, List.set_cons_zero, List.set_cons_succ, List.getElem_toArray, List.getElem_cons_succ, List.getElem_cons_zero])
      refine wpAnyH_ready (rs := [3, 4, 5]) (by kernel_rfl) (by simp) ?_
      refine AllReadyH.cons rfl (fun KK hK => ?_) ?_
      · go_simp
        go_at_call 6; refine (C2.out _).mono ?_; rintro e v2 ⟨rfl, hb4⟩
        refine hK.out _ _ (ap_of BA BB (bel_any hb4 hHeld.1)) (fun hHeld => ?_)
        clear hK KK hb4
        (try simp only [Act.put, List.setIfInBounds_toArray, List.set_cons_zero, List.set_cons_succ, List.getElem_toArray, List.getElem_cons_succ, List.getElem_cons_zero])
        refine wpAnyH_ready (rs := [4, 5]) (by kernel_rfl) (by simp) ?_
        refine AllReadyH.cons rfl (fun KK hK => ?_) ?_
        · go_simp
          refine hK.out _ _ (ap_of BA BB (hHeld.1.alloc hHeld.1.size _)) (fun hNew => ?_)
          have F4 := Lib.hid (al_new hNew.1)
          have L4 := Lib.hid hHeld.1.size
          clear hK KK hHeld
          have hHeld := hNew
          clear hNew
          generalize (v2.alloc (.cells #[.int .i64 0, .string ⟨#[]⟩] 25)) = v3 at *
          (try simp only [Act.put, List.setIfInBounds_toArray, List.set_cons_zero, List.set_cons_succ, List.getElem_toArray, List.getElem_cons_succ, List.getElem_cons_zero])
          refine wpAnyH_ready (rs := [5]) (by kernel_rfl) (by simp) ?_
          refine AllReadyH.cons rfl (fun KK hK => ?_) AllReadyH.nil
          go_simp
          refine hK.out _ _ (ap_of BA BB (hHeld.1.alloc hHeld.1.size _)) (fun hNew => ?_)
          have DD := Lib.hid (lt_heap F4.out)
          replace F4 := Lib.hid (al_old F4.out hNew.1)
          have F5 := Lib.hid (al_new hNew.1)
          have L5 := Lib.hid hHeld.1.size
          clear hK KK hHeld
          have hHeld := hNew
          clear hNew
          generalize (v3.alloc (.cells #[.int .i64 0, .string ⟨#[]⟩] 25)) = v4 at *
          (try simp only [Act.put, List.setIfInBounds_toArray, List.set_cons_zero, List.set_cons_succ, List.getElem_toArray, List.getElem_cons_succ, List.getElem_cons_zero])
          obtain ⟨u0, u1⟩ := Box2.of F4.out
          have z0 := froz F4.out 0
          have z1 := froz F4.out 1
          refine wpAnyH_ready (rs := [6]) (by kernel_rfl) (by simp) ?_
          refine AllReadyH.cons rfl (fun KK hK => ?_) AllReadyH.nil
          go_simp
          refine hK.out _ _ (ap_of BA BB (bel_set hHeld.1 L4.out _ _)) (fun hHeld => ?_)
          clear hK KK u0 u1 z0 z1
          (try simp only [Act.put, List.setIfInBounds_toArray, List.set_cons_zero, List.set_cons_succ, List.getElem_toArray, List.getElem_cons_succ, List.getElem_cons_zero])
          have FP := set_pair F4.out F5.out (Nat.ne_of_gt DD.out) (.int .i64 K) (.string O)
          obtain ⟨u0, u1⟩ := Box2.of FP
          have z0 := froz FP 0
          have z1 := froz FP 1
          clear FP
          refine wpAnyH_ready (rs := [7]) (by kernel_rfl) (by simp) ?_
          refine AllReadyH.cons rfl (fun KK hK => ?_) AllReadyH.nil
          go_simp
          refine hK.out _ _ (ap_of BA BB (bel_set hHeld.1 L5.out _ _)) (fun hHeld => ?_)
          clear hK KK u0 u1 z0 z1
          (try simp only [Act.put, List.setIfInBounds_toArray, List.set_cons_zero, List.set_cons_succ, List.getElem_toArray, List.getElem_cons_succ, List.getElem_cons_zero])
          refine wpAnyH_done (by kernel_rfl) ?_ _
          go_wp2
          go_meet
          exact ⟨_, _, rfl, rfl, HW.out.trans (hHeld.1.mono HW.out.size), hHeld.2.1, hHeld.2.2, set_four F4.out F5.out (Nat.ne_of_gt DD.out) _ _ _ _⟩
        refine AllReadyH.cons rfl (fun KK hK => ?_) AllReadyH.nil
        go_simp
        refine hK.out _ _ (ap_of BA BB (hHeld.1.alloc hHeld.1.size _)) (fun hNew => ?_)
        have F5 := Lib.hid (al_new hNew.1)
        have L5 := Lib.hid hHeld.1.size
        clear hK KK hHeld
        have hHeld := hNew
        clear hNew
        generalize (v2.alloc (.cells #[.int .i64 0, .string ⟨#[]⟩] 25)) = v3 at *
        (try simp only [Act.put, List.setIfInBounds_toArray, List.set_cons_zero, List.set_cons_succ, List.getElem_toArray, List.getElem_cons_succ, List.getElem_cons_zero])
        refine wpAnyH_ready (rs := [4]) (by kernel_rfl) (by simp) ?_
        refine AllReadyH.cons rfl (fun KK hK => ?_) AllReadyH.nil
        go_simp
        refine hK.out _ _ (ap_of BA BB (hHeld.1.alloc hHeld.1.size _)) (fun hNew => ?_)
        have DD := Lib.hid (lt_heap F5.out)
        replace F5 := Lib.hid (al_old F5.out hNew.1)
        have F4 := Lib.hid (al_new hNew.1)
        have L4 := Lib.hid hHeld.1.size
        clear hK KK hHeld
        have hHeld := hNew
        clear hNew
        generalize (v3.alloc (.cells #[.int .i64 0, .string ⟨#[]⟩] 25)) = v4 at *
        (try simp only [Act.put, List.setIfInBounds_toArray, List.set_cons_zero, List.set_cons_succ, List.getElem_toArray, List.getElem_cons_succ, List.getElem_cons_zero])
        obtain ⟨u0, u1⟩ := Box2.of F4.out
        have z0 := froz F4.out 0
        have z1 := froz F4.out 1
        refine wpAnyH_ready (rs := [6]) (by kernel_rfl) (by simp) ?_
        refine AllReadyH.cons rfl (fun KK hK => ?_) AllReadyH.nil
        go_simp
        refine hK.out _ _ (ap_of BA BB (bel_set hHeld.1 L4.out _ _)) (fun hHeld => ?_)
        clear hK KK u0 u1 z0 z1
        (try simp only [Act.put, List.setIfInBounds_toArray, List.set_cons_zero, List.set_cons_succ, List.getElem_toArray, List.getElem_cons_succ, List.getElem_cons_zero])
        have FP := set_pair F4.out F5.out (Nat.ne_of_lt DD.out) (.int .i64 K) (.string O)
        obtain ⟨u0, u1⟩ := Box2.of FP
        have z0 := froz FP 0
        have z1 := froz FP 1
        clear FP
        refine wpAnyH_ready (rs := [7]) (by kernel_rfl) (by simp) ?_
        refine AllReadyH.cons rfl (fun KK hK => ?_) AllReadyH.nil
        go_simp
        refine hK.out _ _ (ap_of BA BB (bel_set hHeld.1 L5.out _ _)) (fun hHeld => ?_)
        clear hK KK u0 u1 z0 z1
        (try simp only [Act.put, List.setIfInBounds_toArray, List.set_cons_zero, List.set_cons_succ, List.getElem_toArray, List.getElem_cons_succ, List.getElem_cons_zero])
        refine wpAnyH_done (by kernel_rfl) ?_ _
        go_wp2
        go_meet
        exact ⟨_, _, rfl, rfl, HW.out.trans (hHeld.1.mono HW.out.size), hHeld.2.1, hHeld.2.2, set_four F4.out F5.out (Nat.ne_of_lt DD.out) _ _ _ _⟩
      refine AllReadyH.cons rfl (fun KK hK => ?_) ?_
      · go_simp
        refine hK.out _ _ (ap_of BA BB (hHeld.1.alloc hHeld.1.size _)) (fun hNew => ?_)
        have F4 := Lib.hid (al_new hNew.1)
        have L4 := Lib.hid hHeld.1.size
        clear hK KK hHeld
        have hHeld := hNew
        clear hNew
        generalize (v1.alloc (.cells #[.int .i64 0, .string ⟨#[]⟩] 25)) = v2 at *
        (try simp only [Act.put, List.setIfInBounds_toArray, List.set_cons_zero, List.set_cons_succ, List.getElem_toArray, List.getElem_cons_succ, List.getElem_cons_zero])
        refine wpAnyH_ready (rs := [3, 5]) (by kernel_rfl) (by simp) ?_
        refine AllReadyH.cons rfl (fun KK hK => ?_) ?_
        · go_simp
          go_at_call 6; refine (C2.out _).mono ?_; rintro e v3 ⟨rfl, hb4⟩
          refine hK.out _ _ (ap_of BA BB (bel_any hb4 hHeld.1)) (fun hHeld => ?_)
          replace F4 := Lib.hid (heap_on F4.out hb4)
          clear hK KK hb4
          (try simp only [Act.put, List.setIfInBounds_toArray, List.set_cons_zero, List.set_cons_succ, List.getElem_toArray, List.getElem_cons_succ, List.getElem_cons_zero])
          refine wpAnyH_ready (rs := [5]) (by kernel_rfl) (by simp) ?_
          refine AllReadyH.cons rfl (fun KK hK => ?_) AllReadyH.nil
          go_simp
          refine hK.out _ _ (ap_of BA BB (hHeld.1.alloc hHeld.1.size _)) (fun hNew => ?_)
          have DD := Lib.hid (lt_heap F4.out)
          replace F4 := Lib.hid (al_old F4.out hNew.1)
          have F5 := Lib.hid (al_new hNew.1)
          have L5 := Lib.hid hHeld.1.size
          clear hK KK hHeld
          have hHeld := hNew
          clear hNew
          generalize (v3.alloc (.cells #[.int .i64 0, .string ⟨#[]⟩] 25)) = v4 at *
          (try simp only [Act.put, List.setIfInBounds_toArray, List.set_cons_zero, List.set_cons_succ, List.getElem_toArray, List.getElem_cons_succ, List.getElem_cons_zero])
          obtain ⟨u0, u1⟩ := Box2.of F4.out
          have z0 := froz F4.out 0
          have z1 := froz F4.out 1
          refine wpAnyH_ready (rs := [6]) (by kernel_rfl) (by simp) ?_
          refine AllReadyH.cons rfl (fun KK hK => ?_) AllReadyH.nil
          go_simp
          refine hK.out _ _ (ap_of BA BB (bel_set hHeld.1 L4.out _ _)) (fun hHeld => ?_)
          clear hK KK u0 u1 z0 z1
          (try simp only [Act.put, List.setIfInBounds_toArray, List.set_cons_zero, List.set_cons_succ, List.getElem_toArray, List.getElem_cons_succ, List.getElem_cons_zero])
          have FP := set_pair F4.out F5.out (Nat.ne_of_gt DD.out) (.int .i64 K) (.string O)
          obtain ⟨u0, u1⟩ := Box2.of FP
          have z0 := froz FP 0
          have z1 := froz FP 1
          clear FP
          refine wpAnyH_ready (rs := [7]) (by kernel_rfl) (by simp) ?_
          refine AllReadyH.cons rfl (fun KK hK => ?_) AllReadyH.nil
          go_simp
          refine hK.out _ _ (ap_of BA BB (bel_set hHeld.1 L5.out _ _)) (fun hHeld => ?_)
          clear hK KK u0 u1 z0 z1
          (try simp only [Act.put, List.setIfInBounds_toArray, List.set_cons_zero, List.set_cons_succ, List.getElem_toArray, List.getElem_cons_succ, List.getElem_cons_zero])
          refine wpAnyH_done (by kernel_rfl) ?_ _
          go_wp2
          go_meet
          exact ⟨_, _, rfl, rfl, HW.out.trans (hHeld.1.mono HW.out.size), hHeld.2.1, hHeld.2.2, set_four F4.out F5.out (Nat.ne_of_gt DD.out) _ _ _ _⟩
        refine AllReadyH.cons rfl (fun KK hK => ?_) AllReadyH.nil
        go_simp
        refine hK.out _ _ (ap_of BA BB (hHeld.1.alloc hHeld.1.size _)) (fun hNew => ?_)
        have DD := Lib.hid (lt_heap F4.out)
        replace F4 := Lib.hid (al_old F4.out hNew.1)
        have F5 := Lib.hid (al_new hNew.1)
        have L5 := Lib.hid hHeld.1.size
        clear hK KK hHeld
        have hHeld := hNew
        clear hNew
        generalize (v2.alloc (.cells #[.int .i64 0, .string ⟨#[]⟩] 25)) = v3 at *
        (try simp only [Act.put, List.setIfInBounds_toArray, List.set_cons_zero, List.set_cons_succ, List.getElem_toArray, List.getElem_cons_succ, List.getElem_cons_zero])
        refine wpAnyH_ready (rs := [3]) (by kernel_rfl) (by simp) ?_
        refine AllReadyH.cons rfl (fun KK hK => ?_) AllReadyH.nil
        go_simp
        go_at_call 6; refine (C2.out _).mono ?_; rintro e v4 ⟨rfl, hb4⟩
        refine hK.out _ _ (ap_of BA BB (bel_any hb4 hHeld.1)) (fun hHeld => ?_)
        replace F4 := Lib.hid (heap_on F4.out hb4)
        replace F5 := Lib.hid (heap_on F5.out hb4)
        clear hK KK hb4
        (try simp only [Act.put, List.setIfInBounds_toArray, List.set_cons_zero, List.set_cons_succ, List.getElem_toArray, List.getElem_cons_succ, List.getElem_cons_zero])
        obtain ⟨u0, u1⟩ := Box2.of F4.out
        have z0 := froz F4.out 0
        have z1 := froz F4.out 1
        refine wpAnyH_ready (rs := [6]) (by kernel_rfl) (by simp) ?_
        refine AllReadyH.cons rfl (fun KK hK => ?_) AllReadyH.nil
        go_simp
        refine hK.out _ _ (ap_of BA BB (bel_set hHeld.1 L4.out _ _)) (fun hHeld => ?_)
        clear hK KK u0 u1 z0 z1
        (try simp only [Act.put, List.setIfInBounds_toArray, List.set_cons_zero, List.set_cons_succ, List.getElem_toArray, List.getElem_cons_succ, List.getElem_cons_zero])
        have FP := set_pair F4.out F5.out (Nat.ne_of_gt DD.out) (.int .i64 K) (.string O)
        obtain ⟨u0, u1⟩ := Box2.of FP
        have z0 := froz FP 0
        have z1 := froz FP 1
        clear FP
        refine wpAnyH_ready (rs := [7]) (by kernel_rfl) (by simp) ?_
        refine AllReadyH.cons rfl (fun KK hK => ?_) AllReadyH.nil
        go_simp
        refine hK.out _ _ (ap_of BA BB (bel_set hHeld.1 L5.out _ _)) (fun hHeld => ?_)
        clear hK KK u0 u1 z0 z1
        (try simp only [Act.put, List.setIfInBounds_toArray, List.set_cons_zero, List.set_cons_succ, List.getElem_toArray, List.getElem_cons_succ, List.getElem_cons_zero])
        refine wpAnyH_done (by kernel_rfl) ?_ _
        go_wp2
        go_meet
        exact ⟨_, _, rfl, rfl, HW.out.trans (hHeld.1.mono HW.out.size), hHeld.2.1, hHeld.2.2, set_four F4.out F5.out (Nat.ne_of_gt DD.out) _ _ _ _⟩
      refine AllReadyH.cons rfl (fun KK hK => ?_) AllReadyH.nil
      go_simp
      refine hK.out _ _ (ap_of BA BB (hHeld.1.alloc hHeld.1.size _)) (fun hNew => ?_)
      have F5 := Lib.hid (al_new hNew.1)
      have L5 := Lib.hid hHeld.1.size
      clear hK KK hHeld
      have hHeld := hNew
      clear hNew
      generalize (v1.alloc (.cells #[.int .i64 0, .string ⟨#[]⟩] 25)) = v2 at *
      (try simp only [Act.put, List.setIfInBounds_toArray, List.set_cons_zero, List.set_cons_succ, List.getElem_toArray, List.getElem_cons_succ, List.getElem_cons_zero])
      refine wpAnyH_ready (rs := [3, 4]) (by kernel_rfl) (by simp) ?_
      refine AllReadyH.cons rfl (fun KK hK => ?_) ?_
      · go_simp
        go_at_call 6; refine (C2.out _).mono ?_; rintro e v3 ⟨rfl, hb4⟩
        refine hK.out _ _ (ap_of BA BB (bel_any hb4 hHeld.1)) (fun hHeld => ?_)
        replace F5 := Lib.hid (heap_on F5.out hb4)
        clear hK KK hb4
        (try simp only [Act.put, List.setIfInBounds_toArray, List.set_cons_zero, List.set_cons_succ, List.getElem_toArray, List.getElem_cons_succ, List.getElem_cons_zero])
        refine wpAnyH_ready (rs := [4]) (by kernel_rfl) (by simp) ?_
        refine AllReadyH.cons rfl (fun KK hK => ?_) AllReadyH.nil
        go_simp
        refine hK.out _ _ (ap_of BA BB (hHeld.1.alloc hHeld.1.size _)) (fun hNew => ?_)
        have DD := Lib.hid (lt_heap F5.out)
        replace F5 := Lib.hid (al_old F5.out hNew.1)
        have F4 := Lib.hid (al_new hNew.1)
        have L4 := Lib.hid hHeld.1.size
        clear hK KK hHeld
        have hHeld := hNew
        clear hNew
        generalize (v3.alloc (.cells #[.int .i64 0, .string ⟨#[]⟩] 25)) = v4 at *
        (try simp only [Act.put, List.setIfInBounds_toArray, List.set_cons_zero, List.set_cons_succ, List.getElem_toArray, List.getElem_cons_succ, List.getElem_cons_zero])
        obtain ⟨u0, u1⟩ := Box2.of F4.out
        have z0 := froz F4.out 0
        have z1 := froz F4.out 1
        refine wpAnyH_ready (rs := [6]) (by kernel_rfl) (by simp) ?_
        refine AllReadyH.cons rfl (fun KK hK => ?_) AllReadyH.nil
        go_simp
        refine hK.out _ _ (ap_of BA BB (bel_set hHeld.1 L4.out _ _)) (fun hHeld => ?_)
        clear hK KK u0 u1 z0 z1
        (try simp only [Act.put, List.setIfInBounds_toArray, List.set_cons_zero, List.set_cons_succ, List.getElem_toArray, List.getElem_cons_succ, List.getElem_cons_zero])
        have FP := set_pair F4.out F5.out (Nat.ne_of_lt DD.out) (.int .i64 K) (.string O)
        obtain ⟨u0, u1⟩ := Box2.of FP
        have z0 := froz FP 0
        have z1 := froz FP 1
        clear FP
        refine wpAnyH_ready (rs := [7]) (by kernel_rfl) (by simp) ?_
        refine AllReadyH.cons rfl (fun KK hK => ?_) AllReadyH.nil
        go_simp
        refine hK.out _ _ (ap_of BA BB (bel_set hHeld.1 L5.out _ _)) (fun hHeld => ?_)
        clear hK KK u0 u1 z0 z1
        (try simp only [Act.put, List.setIfInBounds_toArray, List.set_cons_zero, List.set_cons_succ, List.getElem_toArray, List.getElem_cons_succ, List.getElem_cons_zero])
        refine wpAnyH_done (by kernel_rfl) ?_ _
        go_wp2
        go_meet
        exact ⟨_, _, rfl, rfl, HW.out.trans (hHeld.1.mono HW.out.size), hHeld.2.1, hHeld.2.2, set_four F4.out F5.out (Nat.ne_of_lt DD.out) _ _ _ _⟩
      refine AllReadyH.cons rfl (fun KK hK => ?_) AllReadyH.nil
      go_simp
      refine hK.out _ _ (ap_of BA BB (hHeld.1.alloc hHeld.1.size _)) (fun hNew => ?_)
      have DD := Lib.hid (lt_heap F5.out)
      replace F5 := Lib.hid (al_old F5.out hNew.1)
      have F4 := Lib.hid (al_new hNew.1)
      have L4 := Lib.hid hHeld.1.size
      clear hK KK hHeld
      have hHeld := hNew
      clear hNew
      generalize (v2.alloc (.cells #[.int .i64 0, .string ⟨#[]⟩] 25)) = v3 at *
      (try simp only [Act.put, List.setIfInBounds_toArray, List.set_cons_zero, List.set_cons_succ, List.getElem_toArray, List.getElem_cons_succ, List.getElem_cons_zero])
      refine wpAnyH_ready (rs := [3]) (by kernel_rfl) (by simp) ?_
      refine AllReadyH.cons rfl (fun KK hK => ?_) AllReadyH.nil
      go_simp
      go_at_call 6; refine (C2.out _).mono ?_; rintro e v4 ⟨rfl, hb4⟩
      refine hK.out _ _ (ap_of BA BB (bel_any hb4 hHeld.1)) (fun hHeld => ?_)
      replace F4 := Lib.hid (heap_on F4.out hb4)
      replace F5 := Lib.hid (heap_on F5.out hb4)
      clear hK KK hb4
      (try simp only [Act.put, List.setIfInBounds_toArray, List.set_cons_zero, List.set_cons_succ, List.getElem_toArray, List.getElem_cons_succ, List.getElem_cons_zero])
      obtain ⟨u0, u1⟩ := Box2.of F4.out
      have z0 := froz F4.out 0
      have z1 := froz F4.out 1
      refine wpAnyH_ready (rs := [6]) (by kernel_rfl) (by simp) ?_
      refine AllReadyH.cons rfl (fun KK hK => ?_) AllReadyH.nil
      go_simp
      refine hK.out _ _ (ap_of BA BB (bel_set hHeld.1 L4.out _ _)) (fun hHeld => ?_)
      clear hK KK u0 u1 z0 z1
      (try simp only [Act.put, List.setIfInBounds_toArray, List.set_cons_zero, List.set_cons_succ, List.getElem_toArray, List.getElem_cons_succ, List.getElem_cons_zero])
      have FP := set_pair F4.out F5.out (Nat.ne_of_lt DD.out) (.int .i64 K) (.string O)
      obtain ⟨u0, u1⟩ := Box2.of FP
      have z0 := froz FP 0
      have z1 := froz FP 1
      clear FP
      refine wpAnyH_ready (rs := [7]) (by kernel_rfl) (by simp) ?_
      refine AllReadyH.cons rfl (fun KK hK => ?_) AllReadyH.nil
      go_simp
      refine hK.out _ _ (ap_of BA BB (bel_set hHeld.1 L5.out _ _)) (fun hHeld => ?_)
      clear hK KK u0 u1 z0 z1
      (try simp only [Act.put, List.setIfInBounds_toArray, List.set_cons_zero, List.set_cons_succ, List.getElem_toArray, List.getElem_cons_succ, List.getElem_cons_zero])
      refine wpAnyH_done (by kernel_rfl) ?_ _
      go_wp2
      go_meet
      exact ⟨_, _, rfl, rfl, HW.out.trans (hHeld.1.mono HW.out.size), hHeld.2.1, hHeld.2.2, set_four F4.out F5.out (Nat.ne_of_lt DD.out) _ _ _ _⟩
    refine AllReadyH.cons rfl (fun KK hK => ?_) ?_
    · go_simp
      refine hK.out _ _ (ap_of BA BB (hHeld.1.alloc hHeld.1.size _)) (fun hNew => ?_)
      have F4 := Lib.hid (al_new hNew.1)
      have L4 := Lib.hid hHeld.1.size
      clear hK KK hHeld
      have hHeld := hNew
      clear hNew
      generalize (v0.alloc (.cells #[.int .i64 0, .string ⟨#[]⟩] 25)) = v1 at *
      (try simp only [Act.put, List.setIfInBounds_toArray, List.set_cons_zero, List.set_cons_succ, List.getElem_toArray, List.getElem_cons_succ, List.getElem_cons_zero])
      refine wpAnyH_ready (rs := [1, 5]) (by kernel_rfl) (by simp) ?_
      refine AllReadyH.cons rfl (fun KK hK => ?_) ?_
      · go_simp
        go_at_call 6; refine (C1.out _).mono ?_; rintro e v2 ⟨rfl, hb4⟩
        refine hK.out _ _ (ap_of BA BB (bel_any hb4 hHeld.1)) (fun hHeld => ?_)
        replace F4 := Lib.hid (heap_on F4.out hb4)
        clear hK KK hb4
        (try simp only [Act.put, List.setIfInBounds_toArray, List.set_cons_zero, List.set_cons_succ, List.getElem_toArray, List.getElem_cons_succ, List.getElem_cons_zero])
        refine wpAnyH_ready (rs := [3, 5]) (by kernel_rfl) (by simp) ?_
        refine AllReadyH.cons rfl (fun KK hK => ?_) ?_
        · go_simp
          go_at_call 6; refine (C2.out _).mono ?_; rintro e v3 ⟨rfl, hb4⟩
          refine hK.out _ _ (ap_of BA BB (bel_any hb4 hHeld.1)) (fun hHeld => ?_)
          replace F4 := Lib.hid (heap_on F4.out hb4)
          clear hK KK hb4
          (try simp only [Act.put, List.setIfInBounds_toArray, List.set_cons_zero, List.set_cons_succ, List.getElem_toArray, List.getElem_cons_succ, List.getElem_cons_zero])
          refine wpAnyH_ready (rs := [5]) (by kernel_rfl) (by simp) ?_
          refine AllReadyH.cons rfl (fun KK hK => ?_) AllReadyH.nil
          go_simp
          refine hK.out _ _ (ap_of BA BB (hHeld.1.alloc hHeld.1.size _)) (fun hNew => ?_)
          have DD := Lib.hid (lt_heap F4.out)
          replace F4 := Lib.hid (al_old F4.out hNew.1)
          have F5 := Lib.hid (al_new hNew.1)
          have L5 := Lib.hid hHeld.1.size
          clear hK KK hHeld
          have hHeld := hNew
          clear hNew
          generalize (v3.alloc (.cells #[.int .i64 0, .string ⟨#[]⟩] 25)) = v4 at *
          (try simp only [Act.put, List.setIfInBounds_toArray, List.set_cons_zero, List.set_cons_succ, List.getElem_toArray, List.getElem_cons_succ, List.getElem_cons_zero])
          obtain ⟨u0, u1⟩ := Box2.of F4.out
          have z0 := froz F4.out 0
          have z1 := froz F4.out 1
          refine wpAnyH_ready (rs := [6]) (by kernel_rfl) (by simp) ?_
          refine AllReadyH.cons rfl (fun KK hK => ?_) AllReadyH.nil
          go_simp
          refine hK.out _ _ (ap_of BA BB (bel_set hHeld.1 L4.out _ _)) (fun hHeld => ?_)
          clear hK KK u0 u1 z0 z1
          (try simp only [Act.put, List.setIfInBounds_toArray, List.set_cons_zero, List.set_cons_succ, List.getElem_toArray, List.getElem_cons_succ, List.getElem_cons_zero])
          have FP := set_pair F4.out F5.out (Nat.ne_of_gt DD.out) (.int .i64 K) (.string O)
          obtain ⟨u0, u1⟩ := Box2.of FP
          have z0 := froz FP 0
          have z1 := froz FP 1
          clear FP
          refine wpAnyH_ready (rs := [7]) (by kernel_rfl) (by simp) ?_
          refine AllReadyH.cons rfl (fun KK hK => ?_) AllReadyH.nil
          go_simp
          refine hK.out _ _ (ap_of BA BB (bel_set hHeld.1 L5.out _ _)) (fun hHeld => ?_)
          clear hK KK u0 u1 z0 z1
          (try simp only [Act.put, List.setIfInBounds_toArray, List.set_cons_zero, List.set_cons_succ, List.getElem_toArray, List.getElem_cons_succ, List.getElem_cons_zero])
          refine wpAnyH_done (by kernel_rfl) ?_ _
          go_wp2
          go_meet
          exact ⟨_, _, rfl, rfl, HW.out.trans (hHeld.1.mono HW.out.size), hHeld.2.1, hHeld.2.2, set_four F4.out F5.out (Nat.ne_of_gt DD.out) _ _ _ _⟩
        refine AllReadyH.cons rfl (fun KK hK => ?_) AllReadyH.nil
        go_simp
        refine hK.out _ _ (ap_of BA BB (hHeld.1.alloc hHeld.1.size _)) (fun hNew => ?_)
        have DD := Lib.hid (lt_heap F4.out)
        replace F4 := Lib.hid (al_old F4.out hNew.1)
        have F5 := Lib.hid (al_new hNew.1)
        have L5 := Lib.hid hHeld.1.size
        clear hK KK hHeld
        have hHeld := hNew
        clear hNew
        generalize (v2.alloc (.cells #[.int .i64 0, .string ⟨#[]⟩] 25)) = v3 at *
        (try simp only [Act.put, List.setIfInBounds_toArray, List.set_cons_zero, List.set_cons_succ, List.getElem_toArray, List.getElem_cons_succ, List.getElem_cons_zero])
        refine wpAnyH_ready (rs := [3]) (by kernel_rfl) (by simp) ?_
        refine AllReadyH.cons rfl (fun KK hK => ?_) AllReadyH.nil
        go_simp
        go_at_call 6; refine (C2.out _).mono ?_; rintro e v4 ⟨rfl, hb4⟩
        refine hK.out _ _ (ap_of BA BB (bel_any hb4 hHeld.1)) (fun hHeld => ?_)
        replace F4 := Lib.hid (heap_on F4.out hb4)
        replace F5 := Lib.hid (heap_on F5.out hb4)
        clear hK KK hb4
        (try simp only [Act.put, List.setIfInBounds_toArray, List.set_cons_zero, List.set_cons_succ, List.getElem_toArray, List.getElem_cons_succ, List.getElem_cons_zero])
        obtain ⟨u0, u1⟩ := Box2.of F4.out
        have z0 := froz F4.out 0
        have z1 := froz F4.out 1
        refine wpAnyH_ready (rs := [6]) (by kernel_rfl) (by simp) ?_
        refine AllReadyH.cons rfl (fun KK hK => ?_) AllReadyH.nil
        go_simp
        refine hK.out _ _ (ap_of BA BB (bel_set hHeld.1 L4.out _ _)) (fun hHeld => ?_)
        clear hK KK u0 u1 z0 z1
        (try simp only [Act.put, List.setIfInBounds_toArray, List.set_cons_zero, List.set_cons_succ, List.getElem_toArray, List.getElem_cons_succ, List.getElem_cons_zero])
        have FP := set_pair F4.out F5.out (Nat.ne_of_gt DD.out) (.int .i64 K) (.string O)
        obtain ⟨u0, u1⟩ := Box2.of FP
        have z0 := froz FP 0
        have z1 := froz FP 1
        clear FP
        refine wpAnyH_ready (rs := [7]) (by kernel_rfl) (by simp) ?_
        refine AllReadyH.cons rfl (fun KK hK => ?_) AllReadyH.nil
        go_simp
        refine hK.out _ _ (ap_of BA BB (bel_set hHeld.1 L5.out _ _)) (fun hHeld => ?_)
        clear hK KK u0 u1 z0 z1
        (try simp only [Act.put, List.setIfInBounds_toArray, List.set_cons_zero, List.set_cons_succ, List.getElem_toArray, List.getElem_cons_succ, List.getElem_cons_zero])
        refine wpAnyH_done (by kernel_rfl) ?_ _
        go_wp2
        go_meet
        exact ⟨_, _, rfl, rfl, HW.out.trans (hHeld.1.mono HW.out.size), hHeld.2.1, hHeld.2.2, set_four F4.out F5.out (Nat.ne_of_gt DD.out) _ _ _ _⟩
      refine AllReadyH.cons rfl (fun KK hK => ?_) AllReadyH.nil
      go_simp
      refine hK.out _ _ (ap_of BA BB (hHeld.1.alloc hHeld.1.size _)) (fun hNew => ?_)
      have DD := Lib.hid (lt_heap F4.out)
      replace F4 := Lib.hid (al_old F4.out hNew.1)
      have F5 := Lib.hid (al_new hNew.1)
      have L5 := Lib.hid hHeld.1.size
      clear hK KK hHeld
      have hHeld := hNew
      clear hNew
      generalize (v1.alloc (.cells #[.int .i64 0, .string ⟨#[]⟩] 25)) = v2 at *
      (try simp only [Act.put, List.setIfInBounds_toArray, List.set_cons_zero, List.set_cons_succ, List.getElem_toArray, List.getElem_cons_succ, List.getElem_cons_zero])
      refine wpAnyH_ready (rs := [1]) (by kernel_rfl) (by simp) ?_
      refine AllReadyH.cons rfl (fun KK hK => ?_) AllReadyH.nil
      go_simp
      go_at_call 6; refine (C1.out _).mono ?_; rintro e v3 ⟨rfl, hb4⟩
      refine hK.out _ _ (ap_of BA BB (bel_any hb4 hHeld.1)) (fun hHeld => ?_)
      replace F4 := Lib.hid (heap_on F4.out hb4)
      replace F5 := Lib.hid (heap_on F5.out hb4)
      clear hK KK hb4
      (try simp only [Act.put, List.setIfInBounds_toArray, List.set_cons_zero, List.set_cons_succ, List.getElem_toArray, List.getElem_cons_succ, List.getElem_cons_zero])
      refine wpAnyH_ready (rs := [3]) (by kernel_rfl) (by simp) ?_
      refine AllReadyH.cons rfl (fun KK hK => ?_) AllReadyH.nil
      go_simp
      go_at_call 6; refine (C2.out _).mono ?_; rintro e v4 ⟨rfl, hb4⟩
      refine hK.out _ _ (ap_of BA BB (bel_any hb4 hHeld.1)) (fun hHeld => ?_)
      replace F4 := Lib.hid (heap_on F4.out hb4)
      replace F5 := Lib.hid (heap_on F5.out hb4)
      clear hK KK hb4
      (try simp only [Act.put, List.setIfInBounds_toArray, List.set_cons_zero, List.set_cons_succ, List.getElem_toArray, List.getElem_cons_succ, List.getElem_cons_zero])
      obtain ⟨u0, u1⟩ := Box2.of F4.out
      have z0 := froz F4.out 0
      have z1 := froz F4.out 1
      refine wpAnyH_ready (rs := [6]) (by kernel_rfl) (by simp) ?_
      refine AllReadyH.cons rfl (fun KK hK => ?_) AllReadyH.nil
      go_simp
      refine hK.out _ _ (ap_of BA BB (bel_set hHeld.1 L4.out _ _)) (fun hHeld => ?_)
      clear hK KK u0 u1 z0 z1
      (try simp only [Act.put, List.setIfInBounds_toArray, List.set_cons_zero, List.set_cons_succ, List.getElem_toArray, List.getElem_cons_succ, List.getElem_cons_zero])
      have FP := set_pair F4.out F5.out (Nat.ne_of_gt DD.out) (.int .i64 K) (.string O)
      obtain ⟨u0, u1⟩ := Box2.of FP
      have z0 := froz FP 0
      have z1 := froz FP 1
      clear FP
      refine wpAnyH_ready (rs := [7]) (by kernel_rfl) (by simp) ?_
      refine AllReadyH.cons rfl (fun KK hK => ?_) AllReadyH.nil
      go_simp
      refine hK.out _ _ (ap_of BA BB (bel_set hHeld.1 L5.out _ _)) (fun hHeld => ?_)
      clear hK KK u0 u1 z0 z1
      (try simp only [Act.put, List.setIfInBounds_toArray, List.set_cons_zero, List.set_cons_succ, List.getElem_toArray, List.getElem_cons_succ, List.getElem_cons_zero])
      refine wpAnyH_done (by kernel_rfl) ?_ _
      go_wp2
      go_meet
      exact ⟨_, _, rfl, rfl, HW.out.trans (hHeld.1.mono HW.out.size), hHeld.2.1, hHeld.2.2, set_four F4.out F5.out (Nat.ne_of_gt DD.out) _ _ _ _⟩
    refine AllReadyH.cons rfl (fun KK hK => ?_) AllReadyH.nil
    go_simp
    refine hK.out _ _ (ap_of BA BB (hHeld.1.alloc hHeld.1.size _)) (fun hNew => ?_)
    have F5 := Lib.hid (al_new hNew.1)
    have L5 := Lib.hid hHeld.1.size
    clear hK KK hHeld
    have hHeld := hNew
    clear hNew
    generalize (v0.alloc (.cells #[.int .i64 0, .string ⟨#[]⟩] 25)) = v1 at *
    (try simp only [Act.put, List.setIfInBounds_toArray, List.set_cons_zero, List.set_cons_succ, List.getElem_toArray, List.getElem_cons_succ, List.getElem_cons_zero])
    refine wpAnyH_ready (rs := [1, 4]) (by kernel_rfl) (by simp) ?_
    refine AllReadyH.cons rfl (fun KK hK => ?_) ?_
    · go_simp
      go_at_call 6; refine (C1.out _).mono ?_; rintro e v2 ⟨rfl, hb4⟩
      refine hK.out _ _ (ap_of BA BB (bel_any hb4 hHeld.1)) (fun hHeld => ?_)
      replace F5 := Lib.hid (heap_on F5.out hb4)
      clear hK KK hb4
      (try simp only [Act.put, List.setIfInBounds_toArray, List.set_cons_zero, List.set_cons_succ, List.getElem_toArray, List.getElem_cons_succ, List.getElem_cons_zero])
      refine wpAnyH_ready (rs := [3, 4]) (by kernel_rfl) (by simp) ?_
      refine AllReadyH.cons rfl (fun KK hK => ?_) ?_
      · go_simp
        go_at_call 6; refine (C2.out _).mono ?_; rintro e v3 ⟨rfl, hb4⟩
        refine hK.out _ _ (ap_of BA BB (bel_any hb4 hHeld.1)) (fun hHeld => ?_)
        replace F5 := Lib.hid (heap_on F5.out hb4)
        clear hK KK hb4
        (try simp only [Act.put, List.setIfInBounds_toArray, List.set_cons_zero, List.set_cons_succ, List.getElem_toArray, List.getElem_cons_succ, List.getElem_cons_zero])
        refine wpAnyH_ready (rs := [4]) (by kernel_rfl) (by simp) ?_
        refine AllReadyH.cons rfl (fun KK hK => ?_) AllReadyH.nil
        go_simp
        refine hK.out _ _ (ap_of BA BB (hHeld.1.alloc hHeld.1.size _)) (fun hNew => ?_)
        have DD := Lib.hid (lt_heap F5.out)
        replace F5 := Lib.hid (al_old F5.out hNew.1)
        have F4 := Lib.hid (al_new hNew.1)
        have L4 := Lib.hid hHeld.1.size
        clear hK KK hHeld
        have hHeld := hNew
        clear hNew
        generalize (v3.alloc (.cells #[.int .i64 0, .string ⟨#[]⟩] 25)) = v4 at *
        (try simp only [Act.put, List.setIfInBounds_toArray, List.set_cons_zero, List.set_cons_succ, List.getElem_toArray, List.getElem_cons_succ, List.getElem_cons_zero])
        obtain ⟨u0, u1⟩ := Box2.of F4.out
        have z0 := froz F4.out 0
        have z1 := froz F4.out 1
        refine wpAnyH_ready (rs := [6]) (by kernel_rfl) (by simp) ?_
        refine AllReadyH.cons rfl (fun KK hK => ?_) AllReadyH.nil
        go_simp
        refine hK.out _ _ (ap_of BA BB (bel_set hHeld.1 L4.out _ _)) (fun hHeld => ?_)
        clear hK KK u0 u1 z0 z1
        (try simp only [Act.put, List.setIfInBounds_toArray, List.set_cons_zero, List.set_cons_succ, List.getElem_toArray, List.getElem_cons_succ, List.getElem_cons_zero])
        have FP := set_pair F4.out F5.out (Nat.ne_of_lt DD.out) (.int .i64 K) (.string O)
        obtain ⟨u0, u1⟩ := Box2.of FP
        have z0 := froz FP 0
        have z1 := froz FP 1
        clear FP
        refine wpAnyH_ready (rs := [7]) (by kernel_rfl) (by simp) ?_
        refine AllReadyH.cons rfl (fun KK hK => ?_) AllReadyH.nil
        go_simp
        refine hK.out _ _ (ap_of BA BB (bel_set hHeld.1 L5.out _ _)) (fun hHeld => ?_)
        clear hK KK u0 u1 z0 z1
        (try simp only [Act.put, List.setIfInBounds_toArray, List.set_cons_zero, List.set_cons_succ, List.getElem_toArray, List.getElem_cons_succ, List.getElem_cons_zero])
        refine wpAnyH_done (by kernel_rfl) ?_ _
        go_wp2
        go_meet
        exact ⟨_, _, rfl, rfl, HW.out.trans (hHeld.1.mono HW.out.size), hHeld.2.1, hHeld.2.2, set_four F4.out F5.out (Nat.ne_of_lt DD.out) _ _ _ _⟩
      refine AllReadyH.cons rfl (fun KK hK => ?_) AllReadyH.nil
      go_simp
      refine hK.out _ _ (ap_of BA BB (hHeld.1.alloc hHeld.1.size _)) (fun hNew => ?_)
      have DD := Lib.hid (lt_heap F5.out)
      replace F5 := Lib.hid (al_old F5.out hNew.1)
      have F4 := Lib.hid (al_new hNew.1)
      have L4 := Lib.hid hHeld.1.size
      clear hK KK hHeld
      have hHeld := hNew
      clear hNew
      generalize (v2.alloc (.cells #[.int .i64 0, .string ⟨#[]⟩] 25)) = v3 at *
      (try simp only [Act.put, List.setIfInBounds_toArray, List.set_cons_zero, List.set_cons_succ, List.getElem_toArray, List.getElem_cons_succ, List.getElem_cons_zero])
      refine wpAnyH_ready (rs := [3]) (by kernel_rfl) (by simp) ?_
      refine AllReadyH.cons rfl (fun KK hK => ?_) AllReadyH.nil
      go_simp
      go_at_call 6; refine (C2.out _).mono ?_; rintro e v4 ⟨rfl, hb4⟩
      refine hK.out _ _ (ap_of BA BB (bel_any hb4 hHeld.1)) (fun hHeld => ?_)
      replace F4 := Lib.hid (heap_on F4.out hb4)
      replace F5 := Lib.hid (heap_on F5.out hb4)
      clear hK KK hb4
      (try simp only [Act.put, List.setIfInBounds_toArray, List.set_cons_zero, List.set_cons_succ, List.getElem_toArray, List.getElem_cons_succ, List.getElem_cons_zero])
      obtain ⟨u0, u1⟩ := Box2.of F4.out
      have z0 := froz F4.out 0
      have z1 := froz F4.out 1
      refine wpAnyH_ready (rs := [6]) (by kernel_rfl) (by simp) ?_
      refine AllReadyH.cons rfl (fun KK hK => ?_) AllReadyH.nil
      go_simp
      refine hK.out _ _ (ap_of BA BB (bel_set hHeld.1 L4.out _ _)) (fun hHeld => ?_)
      clear hK KK u0 u1 z0 z1
      (try simp only [Act.put, List.setIfInBounds_toArray, List.set_cons_zero, List.set_cons_succ, List.getElem_toArray, List.getElem_cons_succ, List.getElem_cons_zero])
      have FP := set_pair F4.out F5.out (Nat.ne_of_lt DD.out) (.int .i64 K) (.string O)
      obtain ⟨u0, u1⟩ := Box2.of FP
      have z0 := froz FP 0
      have z1 := froz FP 1
      clear FP
      refine wpAnyH_ready (rs := [7]) (by kernel_rfl) (by simp) ?_
      refine AllReadyH.cons rfl (fun KK hK => ?_) AllReadyH.nil
      go_simp
      refine hK.out _ _ (ap_of BA BB (bel_set hHeld.1 L5.out _ _)) (fun hHeld => ?_)
      clear hK KK u0 u1 z0 z1
      (try simp only [Act.put, List.setIfInBounds_toArray, List.set_cons_zero, List.set_cons_succ, List.getElem_toArray, List.getElem_cons_succ, List.getElem_cons_zero])
      refine wpAnyH_done (by kernel_rfl) ?_ _
      go_wp2
      go_meet
      exact ⟨_, _, rfl, rfl, HW.out.trans (hHeld.1.mono HW.out.size), hHeld.2.1, hHeld.2.2, set_four F4.out F5.out (Nat.ne_of_lt DD.out) _ _ _ _⟩
    refine AllReadyH.cons rfl (fun KK hK => ?_) AllReadyH.nil
    go_simp
    refine hK.out _ _ (ap_of BA BB (hHeld.1.alloc hHeld.1.size _)) (fun hNew => ?_)
    have DD := Lib.hid (lt_heap F5.out)
    replace F5 := Lib.hid (al_old F5.out hNew.1)
    have F4 := Lib.hid (al_new hNew.1)
    have L4 := Lib.hid hHeld.1.size
    clear hK KK hHeld
    have hHeld := hNew
    clear hNew
    generalize (v1.alloc (.cells #[.int .i64 0, .string ⟨#[]⟩] 25)) = v2 at *
    (try simp only [Act.put, List.setIfInBounds_toArray, List.set_cons_zero, List.set_cons_succ, List.getElem_toArray, List.getElem_cons_succ, List.getElem_cons_zero])
    refine wpAnyH_ready (rs := [1]) (by kernel_rfl) (by simp) ?_
    refine AllReadyH.cons rfl (fun KK hK => ?_) AllReadyH.nil
    go_simp
    go_at_call 6; refine (C1.out _).mono ?_; rintro e v3 ⟨rfl, hb4⟩
    refine hK.out _ _ (ap_of BA BB (bel_any hb4 hHeld.1)) (fun hHeld => ?_)
    replace F4 := Lib.hid (heap_on F4.out hb4)
    replace F5 := Lib.hid (heap_on F5.out hb4)
    clear hK KK hb4
    (try simp only [Act.put, List.setIfInBounds_toArray, List.set_cons_zero, List.set_cons_succ, List.getElem_toArray, List.getElem_cons_succ, List.getElem_cons_zero])
    refine wpAnyH_ready (rs := [3]) (by kernel_rfl) (by simp) ?_
    refine AllReadyH.cons rfl (fun KK hK => ?_) AllReadyH.nil
    go_simp
    go_at_call 6; refine (C2.out _).mono ?_; rintro e v4 ⟨rfl, hb4⟩
    refine hK.out _ _ (ap_of BA BB (bel_any hb4 hHeld.1)) (fun hHeld => ?_)
    replace F4 := Lib.hid (heap_on F4.out hb4)
    replace F5 := Lib.hid (heap_on F5.out hb4)
    clear hK KK hb4
    (try simp only [Act.put, List.setIfInBounds_toArray, List.set_cons_zero, List.set_cons_succ, List.getElem_toArray, List.getElem_cons_succ, List.getElem_cons_zero])
    obtain ⟨u0, u1⟩ := Box2.of F4.out
    have z0 := froz F4.out 0
    have z1 := froz F4.out 1
    refine wpAnyH_ready (rs := [6]) (by kernel_rfl) (by simp) ?_
    refine AllReadyH.cons rfl (fun KK hK => ?_) AllReadyH.nil
    go_simp
    refine hK.out _ _ (ap_of BA BB (bel_set hHeld.1 L4.out _ _)) (fun hHeld => ?_)
    clear hK KK u0 u1 z0 z1
    (try simp only [Act.put, List.setIfInBounds_toArray, List.set_cons_zero, List.set_cons_succ, List.getElem_toArray, List.getElem_cons_succ, List.getElem_cons_zero])
    have FP := set_pair F4.out F5.out (Nat.ne_of_lt DD.out) (.int .i64 K) (.string O)
    obtain ⟨u0, u1⟩ := Box2.of FP
    have z0 := froz FP 0
    have z1 := froz FP 1
    clear FP
    refine wpAnyH_ready (rs := [7]) (by kernel_rfl) (by simp) ?_
    refine AllReadyH.cons rfl (fun KK hK => ?_) AllReadyH.nil
    go_simp
    refine hK.out _ _ (ap_of BA BB (bel_set hHeld.1 L5.out _ _)) (fun hHeld => ?_)
    clear hK KK u0 u1 z0 z1
    (try simp only [Act.put, List.setIfInBounds_toArray, List.set_cons_zero, List.set_cons_succ, List.getElem_toArray, List.getElem_cons_succ, List.getElem_cons_zero])
    refine wpAnyH_done (by kernel_rfl) ?_ _
    go_wp2
    go_meet
    exact ⟨_, _, rfl, rfl, HW.out.trans (hHeld.1.mono HW.out.size), hHeld.2.1, hHeld.2.2, set_four F4.out F5.out (Nat.ne_of_lt DD.out) _ _ _ _⟩
  case rest =>
    obtain ⟨m, n, rfl, rfl, HB, B9a, B9b, B2p, B2q⟩ := hcut
    have H0 := Lib.hid HB
    have S0 := Lib.hid (show Below wc.heap.size wc wc ∧ Box9 wc w.heap.size xh0 xt0 xc0 xa0 xm0 xs0 xo0 xp0 xq0 ∧ Box9 wc (w.heap.size + 1) xh1 xt1 xc1 xa1 xm1 xs1 xo1 xp1 xq1 ∧ Box2 wc m K O ∧ Box2 wc n K2 O2 from ⟨Below.refl _ _, B9a, B9b, B2p, B2q⟩)
    clear HB B9b B2q C1 C2
    obtain ⟨x0, x1, x2, x3, x4, x5, x6, x7, x8⟩ := B9a
    obtain ⟨y0, y1⟩ := B2p
    by_cases h1 : K = 1
    · subst h1
      obtain rfl : Z = false := HK.out rfl
      clear HK HN
      go_upto_region 4 with (first | (go_at_call 8; refine (C3.out _).mono ?_; rintro e w3 ⟨rfl, hb3⟩; have S1 := Lib.hid (apart_step S0.out hb3); have H1 := Lib.hid (bel_any hb3 H0.out); obtain ⟨v0, v1⟩ := S1.out.2.2.2.1; clear hb3))
      clear x0 x1 x2 x3 x4 x5 x6 x7 x8 y0 y1 v0 v1
      cases Y
      · refine wp_region_held_drew (S := fun wx => Below w3.heap.size w3 wx ∧ Box9 wx w.heap.size xh0 xt0 xc0 xa0 xm0 xs0 xo0 xp0 xq0 ∧ Box9 wx (w.heap.size + 1) xh1 xt1 xc1 xa1 xm1 xs1 xo1 xp1 xq1 ∧ Box2 wx m 1 O ∧ Box2 wx n K2 O2) (by kernel_rfl) (⟨(Below.refl _ _).drew, S1.out.2⟩) (fun hHeld => ?_)
        refine wpAnyH_take (i := 0) (v := ?_) rfl (by kernel_rfl) (by kernel_rfl) (by kernel_rfl) (fun _ _ _ h => h) (Or.inl ⟨by rfl, ?_⟩) (by assumption) ?_
        rotate_left
        · intro w hSw
          (try dsimp only at hSw)
          go_simp
          (try with_reducible rfl)
        (try simp only [Act.put, List.setIfInBounds_toArray, List.set_cons_zero, List.set_cons_succ, List.getElem_toArray, List.getElem_cons_succ, List.getElem_cons_zero])
        refine wpAnyH_take (i := 1) (v := ?_) rfl (by kernel_rfl) (by kernel_rfl) (by kernel_rfl) (fun _ _ _ h => h) (Or.inl ⟨by rfl, ?_⟩) (by assumption) ?_
        rotate_left
        · intro w hSw
          (try dsimp only at hSw)
          go_simp
          (try with_reducible rfl)
        (try simp only [Act.put, List.setIfInBounds_toArray, List.set_cons_zero, List.set_cons_succ, List.getElem_toArray, List.getElem_cons_succ, List.getElem_cons_zero])
        refine wpAnyH_ready (rs := [2]) (by kernel_rfl) (by simp) ?_
        refine AllReadyH.cons rfl (fun K hK => ?_) AllReadyH.nil
        go_simp
        go_at_call 11; refine (D1.out _).mono ?_; rintro e w4 ⟨rfl, hb4⟩
        refine hK.out _ _ (apart_step hHeld hb4) (fun hHeld => ?_)
        clear hK K
        (try simp only [Act.put, List.setIfInBounds_toArray, List.set_cons_zero, List.set_cons_succ, List.getElem_toArray, List.getElem_cons_succ, List.getElem_cons_zero])
        refine wpAnyH_take (i := 3) (v := ?_) rfl (by kernel_rfl) (by kernel_rfl) (by kernel_rfl) (fun _ _ _ h => h) (Or.inl ⟨by rfl, ?_⟩) (by assumption) ?_
        rotate_left
        · intro w hSw
          (try dsimp only at hSw)
          go_simp
          (try with_reducible rfl)
        (try simp only [Act.put, List.setIfInBounds_toArray, List.set_cons_zero, List.set_cons_succ, List.getElem_toArray, List.getElem_cons_succ, List.getElem_cons_zero])
        refine wpAnyH_take (i := 4) (v := ?_) rfl (by kernel_rfl) (by kernel_rfl) (by kernel_rfl) (fun _ _ _ h => h) (Or.inl ⟨by rfl, ?_⟩) (by assumption) ?_
        rotate_left
        · intro w hSw
          (try dsimp only at hSw)
          go_simp
          (try with_reducible rfl)
        (try simp only [Act.put, List.setIfInBounds_toArray, List.set_cons_zero, List.set_cons_succ, List.getElem_toArray, List.getElem_cons_succ, List.getElem_cons_zero])
        refine wpAnyH_take (i := 5) (v := undef) rfl (by kernel_rfl) (by kernel_rfl) (by kernel_rfl) (fun _ _ _ h => h) (Or.inr ⟨by kernel_rfl, rfl⟩) (by assumption) ?_
        (try simp only [Act.put, List.setIfInBounds_toArray, List.set_cons_zero, List.set_cons_succ, List.getElem_toArray, List.getElem_cons_succ, List.getElem_cons_zero])
        refine wpAnyH_take (i := 6) (v := undef) rfl (by kernel_rfl) (by kernel_rfl) (by kernel_rfl) (fun _ _ _ h => h) (Or.inr ⟨by kernel_rfl, rfl⟩) (by assumption) ?_
        (try simp only [Act.put, List.setIfInBounds_toArray, List.set_cons_zero, List.set_cons_succ, List.getElem_toArray, List.getElem_cons_succ, List.getElem_cons_zero])
        refine wpAnyH_take (i := 7) (v := undef) rfl (by kernel_rfl) (by kernel_rfl) (by kernel_rfl) (fun _ _ _ h => h) (Or.inr ⟨by kernel_rfl, rfl⟩) (by assumption) ?_
        (try simp only [Act.put, List.setIfInBounds_toArray, List.set_cons_zero, List.set_cons_succ, List.getElem_toArray, List.getElem_cons_succ, List.getElem_cons_zero])
        refine wpAnyH_take (i := 8) (v := ?_) rfl (by kernel_rfl) (by kernel_rfl) (by kernel_rfl) (fun _ _ _ h => h) (Or.inl ⟨by rfl, ?_⟩) (by assumption) ?_
        rotate_left
        · intro w hSw
          (try dsimp only at hSw)
          go_simp
          (try with_reducible rfl)
        (try simp only [Act.put, List.setIfInBounds_toArray, List.set_cons_zero, List.set_cons_succ, List.getElem_toArray, List.getElem_cons_succ, List.getElem_cons_zero])
        refine wpAnyH_take (i := 9) (v := ?_) rfl (by kernel_rfl) (by kernel_rfl) (by kernel_rfl) (fun _ _ _ h => h) (Or.inl ⟨by rfl, ?_⟩) (by assumption) ?_
        rotate_left
        · intro w hSw
          (try dsimp only at hSw)
          go_simp
          (try with_reducible rfl)
        (try simp only [Act.put, List.setIfInBounds_toArray, List.set_cons_zero, List.set_cons_succ, List.getElem_toArray, List.getElem_cons_succ, List.getElem_cons_zero])
        refine wpAnyH_take (i := 10) (v := ?_) rfl (by kernel_rfl) (by kernel_rfl) (by kernel_rfl) (fun _ _ _ h => h) (Or.inl ⟨by rfl, ?_⟩) (by assumption) ?_
        rotate_left
        · intro w hSw
          (try dsimp only at hSw)
          go_simp
          (try with_reducible rfl)
        (try simp only [Act.put, List.setIfInBounds_toArray, List.set_cons_zero, List.set_cons_succ, List.getElem_toArray, List.getElem_cons_succ, List.getElem_cons_zero])
        refine wpAnyH_take (i := 11) (v := ?_) rfl (by kernel_rfl) (by kernel_rfl) (by kernel_rfl) (fun _ _ _ h => h) (Or.inl ⟨by rfl, ?_⟩) (by assumption) ?_
        rotate_left
        · intro w hSw
          (try dsimp only at hSw)
          go_simp
          (try with_reducible rfl)
        (try simp only [Act.put, List.setIfInBounds_toArray, List.set_cons_zero, List.set_cons_succ, List.getElem_toArray, List.getElem_cons_succ, List.getElem_cons_zero])
        refine wpAnyH_ready (rs := [12]) (by kernel_rfl) (by simp) ?_
        refine AllReadyH.cons rfl (fun K hK => ?_) AllReadyH.nil
        go_simp
        go_at_call 11; refine (D2.out _).mono ?_; rintro e w4 ⟨rfl, hb4⟩
        refine hK.out _ _ (apart_step hHeld hb4) (fun hHeld => ?_)
        clear hK K
        (try simp only [Act.put, List.setIfInBounds_toArray, List.set_cons_zero, List.set_cons_succ, List.getElem_toArray, List.getElem_cons_succ, List.getElem_cons_zero])
        refine wpAnyH_take (i := 13) (v := ?_) rfl (by kernel_rfl) (by kernel_rfl) (by kernel_rfl) (fun _ _ _ h => h) (Or.inl ⟨by rfl, ?_⟩) (by assumption) ?_
        rotate_left
        · intro w hSw
          (try dsimp only at hSw)
          go_simp
          (try with_reducible rfl)
        (try simp only [Act.put, List.setIfInBounds_toArray, List.set_cons_zero, List.set_cons_succ, List.getElem_toArray, List.getElem_cons_succ, List.getElem_cons_zero])
        refine wpAnyH_take (i := 14) (v := ?_) rfl (by kernel_rfl) (by kernel_rfl) (by kernel_rfl) (fun _ _ _ h => h) (Or.inl ⟨by rfl, ?_⟩) (by assumption) ?_
        rotate_left
        · intro w hSw
          (try dsimp only at hSw)
          go_simp
          (try with_reducible rfl)
        (try simp only [Act.put, List.setIfInBounds_toArray, List.set_cons_zero, List.set_cons_succ, List.getElem_toArray, List.getElem_cons_succ, List.getElem_cons_zero])
        refine wpAnyH_take (i := 15) (v := ?_) rfl (by kernel_rfl) (by kernel_rfl) (by kernel_rfl) (fun _ _ _ h => h) (Or.inl ⟨by rfl, ?_⟩) (by assumption) ?_
        rotate_left
        · intro w hSw
          (try dsimp only at hSw)
          go_simp
          (try with_reducible rfl)
        (try simp only [Act.put, List.setIfInBounds_toArray, List.set_cons_zero, List.set_cons_succ, List.getElem_toArray, List.getElem_cons_succ, List.getElem_cons_zero])
        refine wpAnyH_take (i := 16) (v := ?_) rfl (by kernel_rfl) (by kernel_rfl) (by kernel_rfl) (fun _ _ _ h => h) (Or.inl ⟨by rfl, ?_⟩) (by assumption) ?_
        rotate_left
        · intro w hSw
          (try dsimp only at hSw)
          go_simp
          (try with_reducible rfl)
        (try simp only [Act.put, List.setIfInBounds_toArray, List.set_cons_zero, List.set_cons_succ, List.getElem_toArray, List.getElem_cons_succ, List.getElem_cons_zero])
        refine wpAnyH_take (i := 18) (v := ?_) rfl (by kernel_rfl) (by kernel_rfl) (by kernel_rfl) (fun _ _ _ h => h) (Or.inl ⟨by rfl, ?_⟩) (by assumption) ?_
        rotate_left
        · intro w hSw
          (try dsimp only at hSw)
          go_simp
          (try with_reducible rfl)
        (try simp only [Act.put, List.setIfInBounds_toArray, List.set_cons_zero, List.set_cons_succ, List.getElem_toArray, List.getElem_cons_succ, List.getElem_cons_zero])
        refine wpAnyH_take (i := 19) (v := ?_) rfl (by kernel_rfl) (by kernel_rfl) (by kernel_rfl) (fun _ _ _ h => h) (Or.inl ⟨by rfl, ?_⟩) (by assumption) ?_
        rotate_left
        · intro w hSw
          (try dsimp only at hSw)
          go_simp
          (try with_reducible rfl)
        (try simp only [Act.put, List.setIfInBounds_toArray, List.set_cons_zero, List.set_cons_succ, List.getElem_toArray, List.getElem_cons_succ, List.getElem_cons_zero])
        refine wpAnyH_ready (rs := [17]) (by kernel_rfl) (by simp) ?_
        refine AllReadyH.cons rfl (fun K hK => ?_) AllReadyH.nil
        go_simp
        go_at_call 11; refine (D1.out _).mono ?_; rintro e w4 ⟨rfl, hb4⟩
        refine hK.out _ _ (apart_step hHeld hb4) (fun hHeld => ?_)
        clear hK K
        (try simp only [Act.put, List.setIfInBounds_toArray, List.set_cons_zero, List.set_cons_succ, List.getElem_toArray, List.getElem_cons_succ, List.getElem_cons_zero])
        refine wpAnyH_ready (rs := [20]) (by kernel_rfl) (by simp) ?_
        refine AllReadyH.cons rfl (fun K hK => ?_) AllReadyH.nil
        go_simp
        go_at_call 11; refine (D3.out _).mono ?_; rintro e w4 ⟨rfl, hb4⟩
        refine hK.out _ _ (apart_step hHeld hb4) (fun hHeld => ?_)
        clear hK K
        (try simp only [Act.put, List.setIfInBounds_toArray, List.set_cons_zero, List.set_cons_succ, List.getElem_toArray, List.getElem_cons_succ, List.getElem_cons_zero])
        refine wpAnyH_take (i := 21) (v := ?_) rfl (by kernel_rfl) (by kernel_rfl) (by kernel_rfl) (fun _ _ _ h => h) (Or.inl ⟨by rfl, ?_⟩) (by assumption) ?_
        rotate_left
        · intro w hSw
          (try dsimp only at hSw)
          go_simp
          (try with_reducible rfl)
        (try simp only [Act.put, List.setIfInBounds_toArray, List.set_cons_zero, List.set_cons_succ, List.getElem_toArray, List.getElem_cons_succ, List.getElem_cons_zero])
        refine wpAnyH_take (i := 22) (v := ?_) rfl (by kernel_rfl) (by kernel_rfl) (by kernel_rfl) (fun _ _ _ h => h) (Or.inl ⟨by rfl, ?_⟩) (by assumption) ?_
        rotate_left
        · intro w hSw
          (try dsimp only at hSw)
          go_simp
          (try with_reducible rfl)
        (try simp only [Act.put, List.setIfInBounds_toArray, List.set_cons_zero, List.set_cons_succ, List.getElem_toArray, List.getElem_cons_succ, List.getElem_cons_zero])
        refine wpAnyH_take (i := 23) (v := ?_) rfl (by kernel_rfl) (by kernel_rfl) (by kernel_rfl) (fun _ _ _ h => h) (Or.inl ⟨by rfl, ?_⟩) (by assumption) ?_
        rotate_left
        · intro w hSw
          (try dsimp only at hSw)
          go_simp
          (try with_reducible rfl)
        (try simp only [Act.put, List.setIfInBounds_toArray, List.set_cons_zero, List.set_cons_succ, List.getElem_toArray, List.getElem_cons_succ, List.getElem_cons_zero])
        refine wpAnyH_ready (rs := [24]) (by kernel_rfl) (by simp) ?_
        refine AllReadyH.cons rfl (fun K hK => ?_) AllReadyH.nil
        go_simp
        go_at_call 10; refine (C5.out _).mono ?_; rintro e w4 ⟨rfl, hb4⟩
        refine hK.out _ _ (apart_step hHeld hb4) (fun hHeld => ?_)
        clear hK K
        (try simp only [Act.put, List.setIfInBounds_toArray, List.set_cons_zero, List.set_cons_succ, List.getElem_toArray, List.getElem_cons_succ, List.getElem_cons_zero])
        refine wpAnyH_take (i := 25) (v := ?_) rfl (by kernel_rfl) (by kernel_rfl) (by kernel_rfl) (fun _ _ _ h => h) (Or.inl ⟨by rfl, ?_⟩) (by assumption) ?_
        rotate_left
        · intro w hSw
          (try dsimp only at hSw)
          go_simp
          (try with_reducible rfl)
        (try simp only [Act.put, List.setIfInBounds_toArray, List.set_cons_zero, List.set_cons_succ, List.getElem_toArray, List.getElem_cons_succ, List.getElem_cons_zero])
        refine wpAnyH_take (i := 26) (v := ?_) rfl (by kernel_rfl) (by kernel_rfl) (by kernel_rfl) (fun _ _ _ h => h) (Or.inl ⟨by rfl, ?_⟩) (by assumption) ?_
        rotate_left
        · intro w hSw
          (try dsimp only at hSw)
          go_simp
          (try with_reducible rfl)
        (try simp only [Act.put, List.setIfInBounds_toArray, List.set_cons_zero, List.set_cons_succ, List.getElem_toArray, List.getElem_cons_succ, List.getElem_cons_zero])
        refine wpAnyH_done (by kernel_rfl) ?_ _
        have hH := hHeld
        go_wp2
        go_ret
        exact ⟨rfl, H1.out.trans (hH.1.mono H1.out.size)⟩
      · obtain ⟨rfl, rfl⟩ := HS.out rfl
        go_region_held3 (fun wx => Below w3.heap.size w3 wx ∧ Box9 wx w.heap.size xh0 xt0 xc0 xa0 xm0 xs0 xo0 xp0 xq0 ∧ Box9 wx (w.heap.size + 1) xh1 xt1 xc1 xa1 xm1 xs1 xo1 xp1 xq1 ∧ Box2 wx m 1 O ∧ Box2 wx n 1 O)
          (first | exact ⟨(Below.refl _ _).drew, S1.out.2⟩ | exact apart_step (by assumption) (by assumption))
          (first | (go_at_call 11; first | (with_reducible refine (D1.out _).mono ?_; rintro e w4 ⟨rfl, hb4⟩) | (with_reducible refine (D2.out _).mono ?_; rintro e w5 ⟨rfl, hb5⟩) | (with_reducible refine (D3.out _).mono ?_; rintro e w6 ⟨rfl, hb6⟩)) | (go_at_call 10; refine (C5.out _).mono ?_; rintro e w7 ⟨rfl, hb7⟩))
        rename_i hH
        go_wp2
        go_ret
        exact ⟨rfl, H1.out.trans (hH.1.mono H1.out.size)⟩
    · obtain rfl : O = ⟨#[]⟩ := HN.out h1
      clear HK HN
      have h1' : (K == 1) = false := by simpa using h1
      have h1n : (K != 1) = true := by simpa using h1
      go_upto_region 4 with fail
      clear x0 x1 x2 x3 x4 x5 x6 x7 x8 y0 y1
      cases Y
      · refine wp_region_held_drew (S := fun wx => Below wc.heap.size wc wx ∧ Box9 wx w.heap.size xh0 xt0 xc0 xa0 xm0 xs0 xo0 xp0 xq0 ∧ Box9 wx (w.heap.size + 1) xh1 xt1 xc1 xa1 xm1 xs1 xo1 xp1 xq1 ∧ Box2 wx m K ⟨#[]⟩ ∧ Box2 wx n K2 O2) (by kernel_rfl) (⟨(Below.refl _ _).drew, S0.out.2⟩) (fun hHeld => ?_)
        refine wpAnyH_take (i := 0) (v := ?_) rfl (by kernel_rfl) (by kernel_rfl) (by kernel_rfl) (fun _ _ _ h => h) (Or.inl ⟨by rfl, ?_⟩) (by assumption) ?_
        rotate_left
        · intro w hSw
          (try dsimp only at hSw)
          go_simp
          (try with_reducible rfl)
        (try simp only [Act.put, List.setIfInBounds_toArray, List.set_cons_zero, List.set_cons_succ, List.getElem_toArray, List.getElem_cons_succ, List.getElem_cons_zero])
        refine wpAnyH_take (i := 1) (v := ?_) rfl (by kernel_rfl) (by kernel_rfl) (by kernel_rfl) (fun _ _ _ h => h) (Or.inl ⟨by rfl, ?_⟩) (by assumption) ?_
        rotate_left
        · intro w hSw
          (try dsimp only at hSw)
          go_simp
          (try with_reducible rfl)
        (try simp only [Act.put, List.setIfInBounds_toArray, List.set_cons_zero, List.set_cons_succ, List.getElem_toArray, List.getElem_cons_succ, List.getElem_cons_zero])
        refine wpAnyH_ready (rs := [2]) (by kernel_rfl) (by simp) ?_
        refine AllReadyH.cons rfl (fun K hK => ?_) AllReadyH.nil
        go_simp
        go_at_call 11; refine (D1.out _).mono ?_; rintro e w4 ⟨rfl, hb4⟩
        refine hK.out _ _ (apart_step hHeld hb4) (fun hHeld => ?_)
        clear hK K
        (try simp only [Act.put, List.setIfInBounds_toArray, List.set_cons_zero, List.set_cons_succ, List.getElem_toArray, List.getElem_cons_succ, List.getElem_cons_zero])
        refine wpAnyH_take (i := 3) (v := ?_) rfl (by kernel_rfl) (by kernel_rfl) (by kernel_rfl) (fun _ _ _ h => h) (Or.inl ⟨by rfl, ?_⟩) (by assumption) ?_
        rotate_left
        · intro w hSw
          (try dsimp only at hSw)
          go_simp
          (try with_reducible rfl)
        (try simp only [Act.put, List.setIfInBounds_toArray, List.set_cons_zero, List.set_cons_succ, List.getElem_toArray, List.getElem_cons_succ, List.getElem_cons_zero])
        refine wpAnyH_take (i := 4) (v := ?_) rfl (by kernel_rfl) (by kernel_rfl) (by kernel_rfl) (fun _ _ _ h => h) (Or.inl ⟨by rfl, ?_⟩) (by assumption) ?_
        rotate_left
        · intro w hSw
          (try dsimp only at hSw)
          go_simp
          (try with_reducible rfl)
        (try simp only [Act.put, List.setIfInBounds_toArray, List.set_cons_zero, List.set_cons_succ, List.getElem_toArray, List.getElem_cons_succ, List.getElem_cons_zero])
        refine wpAnyH_take (i := 5) (v := undef) rfl (by kernel_rfl) (by kernel_rfl) (by kernel_rfl) (fun _ _ _ h => h) (Or.inr ⟨by kernel_rfl, rfl⟩) (by assumption) ?_
        (try simp only [Act.put, List.setIfInBounds_toArray, List.set_cons_zero, List.set_cons_succ, List.getElem_toArray, List.getElem_cons_succ, List.getElem_cons_zero])
        refine wpAnyH_take (i := 6) (v := undef) rfl (by kernel_rfl) (by kernel_rfl) (by kernel_rfl) (fun _ _ _ h => h) (Or.inr ⟨by kernel_rfl, rfl⟩) (by assumption) ?_
        (try simp only [Act.put, List.setIfInBounds_toArray, List.set_cons_zero, List.set_cons_succ, List.getElem_toArray, List.getElem_cons_succ, List.getElem_cons_zero])
        refine wpAnyH_take (i := 7) (v := undef) rfl (by kernel_rfl) (by kernel_rfl) (by kernel_rfl) (fun _ _ _ h => h) (Or.inr ⟨by kernel_rfl, rfl⟩) (by assumption) ?_
        (try simp only [Act.put, List.setIfInBounds_toArray, List.set_cons_zero, List.set_cons_succ, List.getElem_toArray, List.getElem_cons_succ, List.getElem_cons_zero])
        refine wpAnyH_take (i := 8) (v := ?_) rfl (by kernel_rfl) (by kernel_rfl) (by kernel_rfl) (fun _ _ _ h => h) (Or.inl ⟨by rfl, ?_⟩) (by assumption) ?_
        rotate_left
        · intro w hSw
          (try dsimp only at hSw)
          go_simp
          (try with_reducible rfl)
        (try simp only [Act.put, List.setIfInBounds_toArray, List.set_cons_zero, List.set_cons_succ, List.getElem_toArray, List.getElem_cons_succ, List.getElem_cons_zero])
        refine wpAnyH_take (i := 9) (v := ?_) rfl (by kernel_rfl) (by kernel_rfl) (by kernel_rfl) (fun _ _ _ h => h) (Or.inl ⟨by rfl, ?_⟩) (by assumption) ?_
        rotate_left
        · intro w hSw
          (try dsimp only at hSw)
          go_simp
          (try with_reducible rfl)
        (try simp only [Act.put, List.setIfInBounds_toArray, List.set_cons_zero, List.set_cons_succ, List.getElem_toArray, List.getElem_cons_succ, List.getElem_cons_zero])
        refine wpAnyH_take (i := 10) (v := ?_) rfl (by kernel_rfl) (by kernel_rfl) (by kernel_rfl) (fun _ _ _ h => h) (Or.inl ⟨by rfl, ?_⟩) (by assumption) ?_
        rotate_left
        · intro w hSw
          (try dsimp only at hSw)
          go_simp
          (try with_reducible rfl)
        (try simp only [Act.put, List.setIfInBounds_toArray, List.set_cons_zero, List.set_cons_succ, List.getElem_toArray, List.getElem_cons_succ, List.getElem_cons_zero])
        refine wpAnyH_take (i := 11) (v := ?_) rfl (by kernel_rfl) (by kernel_rfl) (by kernel_rfl) (fun _ _ _ h => h) (Or.inl ⟨by rfl, ?_⟩) (by assumption) ?_
        rotate_left
        · intro w hSw
          (try dsimp only at hSw)
          go_simp
          (try with_reducible rfl)
        (try simp only [Act.put, List.setIfInBounds_toArray, List.set_cons_zero, List.set_cons_succ, List.getElem_toArray, List.getElem_cons_succ, List.getElem_cons_zero])
        refine wpAnyH_ready (rs := [12]) (by kernel_rfl) (by simp) ?_
        refine AllReadyH.cons rfl (fun K hK => ?_) AllReadyH.nil
        go_simp
        go_at_call 11; refine (D2.out _).mono ?_; rintro e w4 ⟨rfl, hb4⟩
        refine hK.out _ _ (apart_step hHeld hb4) (fun hHeld => ?_)
        clear hK K
        (try simp only [Act.put, List.setIfInBounds_toArray, List.set_cons_zero, List.set_cons_succ, List.getElem_toArray, List.getElem_cons_succ, List.getElem_cons_zero])
        refine wpAnyH_take (i := 13) (v := ?_) rfl (by kernel_rfl) (by kernel_rfl) (by kernel_rfl) (fun _ _ _ h => h) (Or.inl ⟨by rfl, ?_⟩) (by assumption) ?_
        rotate_left
        · intro w hSw
          (try dsimp only at hSw)
          go_simp
          (try with_reducible rfl)
        (try simp only [Act.put, List.setIfInBounds_toArray, List.set_cons_zero, List.set_cons_succ, List.getElem_toArray, List.getElem_cons_succ, List.getElem_cons_zero])
        refine wpAnyH_take (i := 14) (v := ?_) rfl (by kernel_rfl) (by kernel_rfl) (by kernel_rfl) (fun _ _ _ h => h) (Or.inl ⟨by rfl, ?_⟩) (by assumption) ?_
        rotate_left
        · intro w hSw
          (try dsimp only at hSw)
          go_simp
          (try with_reducible rfl)
        (try simp only [Act.put, List.setIfInBounds_toArray, List.set_cons_zero, List.set_cons_succ, List.getElem_toArray, List.getElem_cons_succ, List.getElem_cons_zero])
        refine wpAnyH_take (i := 15) (v := ?_) rfl (by kernel_rfl) (by kernel_rfl) (by kernel_rfl) (fun _ _ _ h => h) (Or.inl ⟨by rfl, ?_⟩) (by assumption) ?_
        rotate_left
        · intro w hSw
          (try dsimp only at hSw)
          go_simp
          (try with_reducible rfl)
        (try simp only [Act.put, List.setIfInBounds_toArray, List.set_cons_zero, List.set_cons_succ, List.getElem_toArray, List.getElem_cons_succ, List.getElem_cons_zero])
        refine wpAnyH_take (i := 16) (v := ?_) rfl (by kernel_rfl) (by kernel_rfl) (by kernel_rfl) (fun _ _ _ h => h) (Or.inl ⟨by rfl, ?_⟩) (by assumption) ?_
        rotate_left
        · intro w hSw
          (try dsimp only at hSw)
          go_simp
          (try with_reducible rfl)
        (try simp only [Act.put, List.setIfInBounds_toArray, List.set_cons_zero, List.set_cons_succ, List.getElem_toArray, List.getElem_cons_succ, List.getElem_cons_zero])
        refine wpAnyH_take (i := 18) (v := ?_) rfl (by kernel_rfl) (by kernel_rfl) (by kernel_rfl) (fun _ _ _ h => h) (Or.inl ⟨by rfl, ?_⟩) (by assumption) ?_
        rotate_left
        · intro w hSw
          (try dsimp only at hSw)
          go_simp
          (try with_reducible rfl)
        (try simp only [Act.put, List.setIfInBounds_toArray, List.set_cons_zero, List.set_cons_succ, List.getElem_toArray, List.getElem_cons_succ, List.getElem_cons_zero])
        refine wpAnyH_take (i := 19) (v := ?_) rfl (by kernel_rfl) (by kernel_rfl) (by kernel_rfl) (fun _ _ _ h => h) (Or.inl ⟨by rfl, ?_⟩) (by assumption) ?_
        rotate_left
        · intro w hSw
          (try dsimp only at hSw)
          go_simp
          (try with_reducible rfl)
        (try simp only [Act.put, List.setIfInBounds_toArray, List.set_cons_zero, List.set_cons_succ, List.getElem_toArray, List.getElem_cons_succ, List.getElem_cons_zero])
        refine wpAnyH_ready (rs := [17]) (by kernel_rfl) (by simp) ?_
        refine AllReadyH.cons rfl (fun K hK => ?_) AllReadyH.nil
        go_simp
        go_at_call 11; refine (D1.out _).mono ?_; rintro e w4 ⟨rfl, hb4⟩
        refine hK.out _ _ (apart_step hHeld hb4) (fun hHeld => ?_)
        clear hK K
        (try simp only [Act.put, List.setIfInBounds_toArray, List.set_cons_zero, List.set_cons_succ, List.getElem_toArray, List.getElem_cons_succ, List.getElem_cons_zero])
        refine wpAnyH_ready (rs := [20]) (by kernel_rfl) (by simp) ?_
        refine AllReadyH.cons rfl (fun K hK => ?_) AllReadyH.nil
        go_simp
        go_at_call 11; refine (D3.out _).mono ?_; rintro e w4 ⟨rfl, hb4⟩
        refine hK.out _ _ (apart_step hHeld hb4) (fun hHeld => ?_)
        clear hK K
        (try simp only [Act.put, List.setIfInBounds_toArray, List.set_cons_zero, List.set_cons_succ, List.getElem_toArray, List.getElem_cons_succ, List.getElem_cons_zero])
        refine wpAnyH_take (i := 21) (v := ?_) rfl (by kernel_rfl) (by kernel_rfl) (by kernel_rfl) (fun _ _ _ h => h) (Or.inl ⟨by rfl, ?_⟩) (by assumption) ?_
        rotate_left
        · intro w hSw
          (try dsimp only at hSw)
          go_simp
          (try with_reducible rfl)
        (try simp only [Act.put, List.setIfInBounds_toArray, List.set_cons_zero, List.set_cons_succ, List.getElem_toArray, List.getElem_cons_succ, List.getElem_cons_zero])
        refine wpAnyH_take (i := 22) (v := ?_) rfl (by kernel_rfl) (by kernel_rfl) (by kernel_rfl) (fun _ _ _ h => h) (Or.inl ⟨by rfl, ?_⟩) (by assumption) ?_
        rotate_left
        · intro w hSw
          (try dsimp only at hSw)
          go_simp
          (try with_reducible rfl)
        (try simp only [Act.put, List.setIfInBounds_toArray, List.set_cons_zero, List.set_cons_succ, List.getElem_toArray, List.getElem_cons_succ, List.getElem_cons_zero])
        refine wpAnyH_take (i := 23) (v := ?_) rfl (by kernel_rfl) (by kernel_rfl) (by kernel_rfl) (fun _ _ _ h => h) (Or.inl ⟨by rfl, ?_⟩) (by assumption) ?_
        rotate_left
        · intro w hSw
          (try dsimp only at hSw)
          go_simp
          (try with_reducible rfl)
        (try simp only [Act.put, List.setIfInBounds_toArray, List.set_cons_zero, List.set_cons_succ, List.getElem_toArray, List.getElem_cons_succ, List.getElem_cons_zero])
        refine wpAnyH_ready (rs := [24]) (by kernel_rfl) (by simp) ?_
        refine AllReadyH.cons rfl (fun K hK => ?_) AllReadyH.nil
        go_simp
        go_at_call 10; refine (C5.out _).mono ?_; rintro e w4 ⟨rfl, hb4⟩
        refine hK.out _ _ (apart_step hHeld hb4) (fun hHeld => ?_)
        clear hK K
        (try simp only [Act.put, List.setIfInBounds_toArray, List.set_cons_zero, List.set_cons_succ, List.getElem_toArray, List.getElem_cons_succ, List.getElem_cons_zero])
        refine wpAnyH_take (i := 25) (v := ?_) rfl (by kernel_rfl) (by kernel_rfl) (by kernel_rfl) (fun _ _ _ h => h) (Or.inl ⟨by rfl, ?_⟩) (by assumption) ?_
        rotate_left
        · intro w hSw
          (try dsimp only at hSw)
          go_simp
          (try with_reducible rfl)
        (try simp only [Act.put, List.setIfInBounds_toArray, List.set_cons_zero, List.set_cons_succ, List.getElem_toArray, List.getElem_cons_succ, List.getElem_cons_zero])
        refine wpAnyH_take (i := 26) (v := ?_) rfl (by kernel_rfl) (by kernel_rfl) (by kernel_rfl) (fun _ _ _ h => h) (Or.inl ⟨by rfl, ?_⟩) (by assumption) ?_
        rotate_left
        · intro w hSw
          (try dsimp only at hSw)
          go_simp
          (try with_reducible rfl)
        (try simp only [Act.put, List.setIfInBounds_toArray, List.set_cons_zero, List.set_cons_succ, List.getElem_toArray, List.getElem_cons_succ, List.getElem_cons_zero])
        refine wpAnyH_done (by kernel_rfl) ?_ _
        have hH := hHeld
        go_wp2
        go_ret
        exact ⟨rfl, H0.out.trans (hH.1.mono H0.out.size)⟩
      · obtain ⟨rfl, rfl⟩ := HS.out rfl
        go_region_held3 (fun wx => Below wc.heap.size wc wx ∧ Box9 wx w.heap.size xh0 xt0 xc0 xa0 xm0 xs0 xo0 xp0 xq0 ∧ Box9 wx (w.heap.size + 1) xh1 xt1 xc1 xa1 xm1 xs1 xo1 xp1 xq1 ∧ Box2 wx m K ⟨#[]⟩ ∧ Box2 wx n K ⟨#[]⟩)
          (first | exact ⟨(Below.refl _ _).drew, S0.out.2⟩ | exact apart_step (by assumption) (by assumption))
          (first | (go_at_call 11; first | (with_reducible refine (D1.out _).mono ?_; rintro e w4 ⟨rfl, hb4⟩) | (with_reducible refine (D2.out _).mono ?_; rintro e w5 ⟨rfl, hb5⟩) | (with_reducible refine (D3.out _).mono ?_; rintro e w6 ⟨rfl, hb6⟩)) | (go_at_call 10; refine (C5.out _).mono ?_; rintro e w7 ⟨rfl, hb7⟩))
        rename_i hH
        go_wp2
        go_ret
        exact ⟨rfl, H0.out.trans (hH.1.mono H0.out.size)⟩

set_option maxRecDepth 100000 in
theorem lifted (os : Os) (started : os.Started) (H : Type) (enc : TypeId × Value → H) :
    ReturnsInHanded {} Try.checked os 5 .any (Rows.outcomeApartSpec.pre6 enc Try.prog Try.f5 Rows.outcomeApartRow.domain false) (Rows.outcomeApartSpec.post enc Try.prog Try.f5 false true false false) := by
  refine returnsInHanded_of_change_sized (C := Try.checked) own started (by kernel_rfl) Try.func5
    (ChangeSpec.witness6 (enc := enc) (C := Try.checked) false ⟨#[], #[.agg #[.bool false, .int .i64 0, .int .i64 0, .int .i64 0, .int .i64 0, .int .i64 0, .string ByteArray.empty, .string ByteArray.empty, .string ByteArray.empty], .agg #[.bool false, .int .i64 0, .int .i64 0, .int .i64 0, .int .i64 0, .int .i64 0, .string ByteArray.empty, .string ByteArray.empty, .string ByteArray.empty]], []⟩ 8 (by kernel_rfl) (by kernel_rfl) (by kernel_rfl) (by kernel_rfl)) ?_
  intro W base args ds gs before hval0 hW hcnd hsz _
  have hval : ∀ (j : Nat) t v, Try.f5.params[j]? = some t → args[j]? = some v → Value.okWide Try.prog W .any base t v := hval0
  have hW' := hW
  obtain ⟨p, q, hA0, hV, rfl, hfz, hnd⟩ := hW
  have hA : DataW.TrodAll enc Try.prog W 0 (fun _ => true) true Try.f5.params.toList args.toList ds p := hA0
  rw [Try.params5] at hA hval
  obtain ⟨v0, vs0, d0, ds0, p0, q0, hargs, rfl, rfl, h0, r0⟩ := trodAll_cons hA
  obtain ⟨v1, vs1, d1, ds1, p1, q1, rfl, rfl, rfl, h1, r1⟩ := trodAll_cons r0
  obtain ⟨rfl, rfl, rfl⟩ := trodAll_nil r1
  obtain rfl : args = #[v0, v1] := by cases args; simp_all
  obtain ⟨rfl, rfl⟩ := trodVars_none hV
  have k0 := h0
  have lt0 : ∀ x ∈ p0, x.block < W.heap.size := by obtain ⟨m, hm⟩ := k0; exact DataW.trod_lt m _ _ _ hm
  obtain ⟨xh0, xt0, xc0, xa0, xm0, xs0, xo0, xp0, xq0, rfl, zo0, zp0, zq0⟩ := open_result (hval 0 23 v0 rfl rfl) h0 (fun n hn => by have := List.all_eq_true.1 hsz _ (DataW.weights_mem_each (ts := _) (ds := _) (j := 0) (t := 23) (d := d0) rfl rfl n hn); simpa using this)
  have k1 := h1
  have lt1 : ∀ x ∈ p1, x.block < W.heap.size := by obtain ⟨m, hm⟩ := k1; exact DataW.trod_lt m _ _ _ hm
  obtain ⟨xh1, xt1, xc1, xa1, xm1, xs1, xo1, xp1, xq1, rfl, zo1, zp1, zq1⟩ := open_result (hval 1 23 v1 rfl rfl) h1 (fun n hn => by have := List.all_eq_true.1 hsz _ (DataW.weights_mem_each (ts := _) (ds := _) (j := 1) (t := 23) (d := d1) rfl rfl n hn); simpa using this)
  clear hA0 hval0
  refine (walk xh0 xt0 xc0 xa0 xm0 xs0 xo0 xp0 xq0 xh1 xt1 xc1 xa1 xm1 xs1 xo1 xp1 xq1 zo0 zp0 zq0 zo1 zp1 zq1 W).mono fun e W' ⟨he, bel⟩ => ?_
  subst he
  exact ⟨_, rfl, _, _, _, [], _, [], hW', trodAll_mk1 (shut_bool Try.underlying4 _), (trodAll_cons_mk (Below.trod laidOut (by kernel_rfl) (of_decide_eq_true (by kernel_rfl)) k0 bel lt0) (trodAll_cons_mk (Below.trod laidOut (by kernel_rfl) (of_decide_eq_true (by kernel_rfl)) k1 bel lt1) trodAll_mk0)), rfl, bel.frame _, fun h => by cases h⟩

theorem over : Rows.outcomeApartRow.holds Try.pinned (OpenSpec.ofChange Rows.outcomeApartSpec) :=
  OpenClaim.holds_of_wide 5 Try.f5 rfl rfl rfl rfl rfl rfl rfl ⟨rfl, rfl, rfl, rfl, rfl⟩ rfl rfl rfl rfl rfl (by kernel_rfl) Try.func5 (by kernel_rfl)
    (of_decide_eq_true (by kernel_rfl)) (by unfold Func.isWrapper; first | (rw [if_pos (by decide +kernel)]; kernel_rfl) | (rw [if_neg (by decide +kernel)]; exact ⟨rfl, rfl⟩))
    (fun os started H enc _ => lifted os started H enc)

/-- the statement -/
theorem proved : Rows.OutcomeApartSaid := over
#print axioms proved
end Go.Proofs.Ytpfljdcahhhggaa.outcomeApart
