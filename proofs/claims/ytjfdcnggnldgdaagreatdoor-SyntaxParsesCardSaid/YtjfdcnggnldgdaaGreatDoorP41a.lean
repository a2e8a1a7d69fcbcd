/-
The document's reader: a parameter more; a function.
The document's reader: a function without parameters.
The document's reader: how many parameters.
-/
import Derived.Test.YtjfdcnggnldgdaaGreatDoorP37a
import Derived.Test.YtjfdcnggnldgdaaGreatDoorP39a
section
namespace Go.Proofs.YtjfdcnggnldgdaaGreatDoor
open Go.ChangeShapes Go.WideShapes Go.ChangeAt Go.RowKit
set_option linter.unusedVariables false
set_option linter.unusedSimpArgs false

/-- what the document's reader of a function hands back -/
def rFNP (b : Nat) (L : List Lx.Tok) (r : Sx.F × Sx.R) (e : Ending) (J : List It) : Prop :=
  ∃ (p : Int) (nm : List UInt8) (hh : Bool) (te tl tb : Int) (q1 q2 : Option Addr) (l1 l2 c1 c2 : Nat) (ps : List Sx.Pa) (bs : List Sx.S), e = .returned (.agg (fnA p nm (.slice q1 l1 c1) hh te tl tb (.slice q2 l2 c2))) ∧ J = [rr b L r.2, psI (.slice q1 l1 c1) ps, ssI (.slice q2 l2 c2) bs] ∧ (r.2.err = 0 → r.1 = ⟨p, nm, ps, hh, ⟨te, tl, tb⟩, bs⟩)
theorem psI_nil {w : World} {I : List It} {P : Nat → Prop} (h : Sep w I P) : Sep w (psI (.slice none 0 0) [] :: I) P := Sep.emp h ⟨World.ownsRow_nil _ _ _ _, fun g hg => by cases hg⟩
theorem appP_post {w : World} {x r : It} {I : List It} {P : Nat → Prop} {v v' : Value} {ps : List Sx.Pa} {p : Sx.Pa} {i : Nat} (hi : I[i]? = some (psI v ps))
    (h : Sep w ((x :: r :: I).set (i + 2) (ownI 81 6 v' (ps.length + 1) (ps.flatMap paL ++ paL p))) P) : Sep w (x :: I.set i (psI v' (ps ++ [p]))) P := by
  have h2 : Sep w (x :: r :: I.set i (ownI 81 6 v' (ps.length + 1) (ps.flatMap paL ++ paL p))) P := h
  have h3 : Sep w (x :: I.set i (ownI 81 6 v' (ps.length + 1) (ps.flatMap paL ++ paL p))) P := h2.under fun P h => h.drop
  have h4 : psI v' (ps ++ [p]) = ownI 81 6 v' (ps.length + 1) (ps.flatMap paL ++ paL p) := by
    unfold psI
    rw [List.length_append, List.flatMap_append, List.flatMap_cons, List.flatMap_nil, List.append_nil]
    rfl
  rw [h4]
  exact h3
theorem wp_appP {o : Oper} {a : Act} {w w0 : World} {X : Nat → Prop} {x : It} {I : List It} {Q : Exit → Act → World → Prop} {K : Act → World → Prop} {b3 : Nat} {p : Sx.Pa} {v : Value} {ps : List Sx.Pa} {t : TypeId} (h : St X w0 w (x :: .row b3 81 (paA p.pos (Lx.S p.name) p.ty.elem p.ty.len p.ty.label p.out) :: I)) (i : Nat) (hi : I[i]? = some (psI v ps)) (ho : apOf a o = some ([v, .slice (some ⟨b3, 0, none⟩) 1 1], [t, t])) (hu : Tryz.prog.underlying t = some (.slice 81)) (hn : ps.length < nMax)
    (kk : ∀ (q : Option Addr) (c : Nat) (w' : World), Hid (St X w0 w' (x :: I.set i (psI (.slice q (ps.length + 1) c) (ps ++ [p])))) → K (a.put o.dst (.slice q (ps.length + 1) c)) w') : Oper.wp Tryz.prog o a w K Q := by
  refine wp_append (xs := ps.flatMap paL) (n := ps.length) h (i + 2) 1 ho (show I[i]? = _ from hi) rfl hu paEl rfl (paOne _ _ _ _ _ _) hn ?_
  intro v' w' hs' h13
  have hs2 : St X w0 w' (x :: I.set i (psI v' (ps ++ [p]))) := hs'.out.to fun P h => appP_post hi h
  have h5 : (x :: I.set i (psI v' (ps ++ [p])))[i + 1]? = some (ownI 81 6 v' (ps ++ [p]).length ((ps ++ [p]).flatMap paL)) := by
    show (I.set i (psI v' (ps ++ [p])))[i]? = _
    rw [List.getElem?_set_self]
    · rfl
    · exact (List.getElem?_eq_some_iff.1 hi).1
  obtain ⟨q, c, rfl⟩ := hs2.ownLen (i + 1) h5
  rw [List.length_append] at hs2 ⊢
  exact kk q c w' (Lib.hid hs2)
end Go.Proofs.YtjfdcnggnldgdaaGreatDoor
end
section
namespace Go.Proofs.YtjfdcnggnldgdaaGreatDoor
open Go.ChangeShapes Go.WideShapes Go.ChangeAt Go.RowKit
set_option linter.unusedVariables false
set_option linter.unusedSimpArgs false

set_option maxHeartbeats 8000000 in
set_option maxRecDepth 100000 in
theorem rfunction_none_no (b : Nat) (L : List Lx.Tok) (hL : Sx.Ok L) (σ : Sx.R) (h1 : Sx.sees L [41] (Sx.eat L [40] (Sx.some L 1 (Sx.eat L Sx.wFn σ)).2) = true) (h2 : Sx.sees L [58] (Sx.eat L [41] (Sx.eat L [40] (Sx.some L 1 (Sx.eat L Sx.wFn σ)).2)) = false) : Fn 34 #[.pointer (some ⟨b, 0, none⟩)] [rr b L σ] (rFNP b L (Sx.function L σ)) := by
  intro w P hP h0
  have HS := Lib.hid (St.start hP h0)
  have C1 := Lib.hid (reat_fn b L hL σ Sx.wFn (by decide))
  have C2 := Lib.hid (rsome_fn b L hL (Sx.eat L Sx.wFn σ) 1 (by decide))
  unfold Sx.function Sx.plist
  simp only []
  generalize Sx.some L 1 (Sx.eat L Sx.wFn σ) = sm at C2 h1 h2 ⊢
  obtain ⟨t, τ⟩ := sm
  simp only [] at C2 h1 h2 ⊢
  rw [if_pos h1]
  simp only []
  have C3 := Lib.hid (reat_fn b L hL τ [40] (by decide))
  have C4 := Lib.hid (rsees_fn b L (Sx.eat L [40] τ) [41])
  rw [h1] at C4
  have C5 := Lib.hid (reat_fn b L hL (Sx.eat L [40] τ) [41] (by decide))
  have C6 := Lib.hid (rmay_fn b L hL (Sx.eat L [41] (Sx.eat L [40] τ)) [58] (by decide))
  rw [Sx.may_no h2] at C6 ⊢
  have hres : Sx.res L (false, (Sx.eat L [41] (Sx.eat L [40] τ))) = (Sx.noTy, (Sx.eat L [41] (Sx.eat L [40] τ))) := rfl
  rw [hres]
  simp only [Sx.Bl_def]
  have CB := Lib.hid (rblock_any b L hL (Sx.eat L [41] (Sx.eat L [40] τ)))
  have HOK := Lib.hid (fun h => Sx.Le.ok (Sx.le_Bl hL.ends (Sx.eat L [41] (Sx.eat L [40] τ))) h)
  clear hres
  clear h0 hP hL h1 h2
  go_enter Tryz.func34, Tryz.ntmps34
  go_wp2_with (first
    | (refine wpl_alloc HS.out _ rfl fnZ ?_; intro b_r w1 HS1; clear HS)
    | (refine wpl_alloc HS1.out _ rfl fnZ ?_; intro b_s w2 HS2; clear HS1)
    | (go_at_call 65; refine (HS2.out.call1 C1.out).mono ?_; rintro e w3 ⟨J, ⟨rfl, rfl⟩, hs⟩; simp only [List.cons_append, List.nil_append] at hs; have HS3 := Lib.hid hs; clear hs HS2)
    | (go_at_call 66; refine (HS3.out.call1 C2.out).mono ?_; rintro e w4 ⟨J, ⟨rfl, rfl⟩, hs⟩; simp only [List.cons_append, List.nil_append] at hs; have HS4 := Lib.hid hs; clear hs HS3)
    | (refine wpl_alloc HS4.out _ rfl tokZ ?_; intro b_n w5 HS5; clear HS4)
    | (refine wpl_storeS HS5.out 1 rfl rfl tokT rfl (fitsT _ _ _ _) ?_; intro w6 hs; have HS6 := Lib.hid (show St _ _ _ (_ :: _ :: _ :: _ :: []) from hs.out); clear hs HS5)
    | (refine wpl_load HS6.out 1 rfl rfl intO rfl ?_)
    | (refine wpl_store HS6.out 2 rfl rfl intO (of_decide_eq_true rfl) rfl ?_; intro w7 hs; have HS7 := Lib.hid (show St _ _ _ (_ :: _ :: _ :: _ :: []) from hs.out); clear hs HS6)
    | (refine wpl_load HS7.out 1 rfl rfl strO rfl ?_)
    | (refine wpl_store HS7.out 2 rfl rfl strO (of_decide_eq_true rfl) rfl ?_; intro w8 hs; have HS8 := Lib.hid (show St _ _ _ (_ :: _ :: _ :: _ :: []) from hs.out); clear hs HS7)
    | (go_at_call 65; refine (HS8.out.call1 C3.out).mono ?_; rintro e w9 ⟨J, ⟨rfl, rfl⟩, hs⟩; simp only [List.cons_append, List.nil_append] at hs; have HS9 := Lib.hid hs; clear hs HS8)
    | (go_at_call 67; refine (HS9.out.call1 C4.out).mono ?_; rintro e w10 ⟨J, ⟨rfl, rfl⟩, hs⟩; simp only [List.cons_append, List.nil_append] at hs; have HS10 := Lib.hid hs; clear hs HS9)
    | (go_at_call 65; refine (HS10.out.call1 C5.out).mono ?_; rintro e w11 ⟨J, ⟨rfl, rfl⟩, hs⟩; simp only [List.cons_append, List.nil_append] at hs; have HS11 := Lib.hid hs; clear hs HS10)
    | (go_at_call 69; refine (HS11.out.call1 C6.out).mono ?_; rintro e w12 ⟨J, ⟨rfl, rfl⟩, hs⟩; simp only [List.cons_append, List.nil_append] at hs; have HS12 := Lib.hid hs; clear hs HS11)
    | (go_at_call 72; refine (HS12.out.call1 CB.out).mono ?_; rintro e w13 ⟨J, ⟨q_B, l_B, c_B, ss_B, rfl, rfl, hx_B⟩, hs⟩; simp only [List.cons_append, List.nil_append] at hs; have HS13 := Lib.hid hs; clear hs HS12; have HX_B := Lib.hid hx_B; clear hx_B)
    | (refine wpl_store HS13.out 3 rfl rfl stmtsO (of_decide_eq_true rfl) rfl ?_; intro w14 hs; have HS14 := Lib.hid (show St _ _ _ (_ :: _ :: _ :: _ :: _ :: []) from hs.out); clear hs HS13)
    | (refine wpl_loadS HS14.out 3 rfl rfl fnT rfl ?_)
    | (refine wpl_storeS HS14.out 4 rfl rfl fnT rfl fitsF ?_; intro w15 hs; have HS15 := Lib.hid (show St _ _ _ (_ :: _ :: _ :: _ :: _ :: []) from hs.out); clear hs HS14))
  refine bp_cell HS15.out 4 fnT rfl rfl rfl rfl rfl ⟨_, ⟨t.pos, t.text, false, _, _, _, _, _, _, _, _, _, [], ss_B, rfl, rfl, fun h => ?_⟩, (HS15.out.sel [0, 0] rfl).to fun P h => h.under fun P h => psI_nil h⟩
  rw [← HX_B.out h]
  rfl
set_option maxHeartbeats 8000000 in
set_option maxRecDepth 100000 in
theorem rfunction_none_has (b : Nat) (L : List Lx.Tok) (hL : Sx.Ok L) (σ : Sx.R) (h1 : Sx.sees L [41] (Sx.eat L [40] (Sx.some L 1 (Sx.eat L Sx.wFn σ)).2) = true) (h2 : Sx.sees L [58] (Sx.eat L [41] (Sx.eat L [40] (Sx.some L 1 (Sx.eat L Sx.wFn σ)).2)) = true) : Fn 34 #[.pointer (some ⟨b, 0, none⟩)] [rr b L σ] (rFNP b L (Sx.function L σ)) := by
  intro w P hP h0
  have HS := Lib.hid (St.start hP h0)
  have C1 := Lib.hid (reat_fn b L hL σ Sx.wFn (by decide))
  have C2 := Lib.hid (rsome_fn b L hL (Sx.eat L Sx.wFn σ) 1 (by decide))
  unfold Sx.function Sx.plist
  simp only []
  generalize Sx.some L 1 (Sx.eat L Sx.wFn σ) = sm at C2 h1 h2 ⊢
  obtain ⟨t, τ⟩ := sm
  simp only [] at C2 h1 h2 ⊢
  rw [if_pos h1]
  simp only []
  have C3 := Lib.hid (reat_fn b L hL τ [40] (by decide))
  have C4 := Lib.hid (rsees_fn b L (Sx.eat L [40] τ) [41])
  rw [h1] at C4
  have C5 := Lib.hid (reat_fn b L hL (Sx.eat L [40] τ) [41] (by decide))
  have C6 := Lib.hid (rmay_fn b L hL (Sx.eat L [41] (Sx.eat L [40] τ)) [58] (by decide))
  rw [Sx.may_is h2] at C6 ⊢
  have C7 := Lib.hid (rlabel_fn b L hL { (Sx.eat L [41] (Sx.eat L [40] τ)) with at' := (Sx.eat L [41] (Sx.eat L [40] τ)).at' + 1 })
  have C8 := Lib.hid (rkind_fn b L hL (Sx.label L { (Sx.eat L [41] (Sx.eat L [40] τ)) with at' := (Sx.eat L [41] (Sx.eat L [40] τ)).at' + 1 }).2 true (Sx.label L { (Sx.eat L [41] (Sx.eat L [40] τ)) with at' := (Sx.eat L [41] (Sx.eat L [40] τ)).at' + 1 }).1)
  have hres : Sx.res L (true, { (Sx.eat L [41] (Sx.eat L [40] τ)) with at' := (Sx.eat L [41] (Sx.eat L [40] τ)).at' + 1 }) = (Sx.type L true (Sx.label L { (Sx.eat L [41] (Sx.eat L [40] τ)) with at' := (Sx.eat L [41] (Sx.eat L [40] τ)).at' + 1 }).1 (Sx.label L { (Sx.eat L [41] (Sx.eat L [40] τ)) with at' := (Sx.eat L [41] (Sx.eat L [40] τ)).at' + 1 }).2) := rfl
  rw [hres]
  simp only [Sx.Bl_def]
  have CB := Lib.hid (rblock_any b L hL (Sx.type L true (Sx.label L { (Sx.eat L [41] (Sx.eat L [40] τ)) with at' := (Sx.eat L [41] (Sx.eat L [40] τ)).at' + 1 }).1 (Sx.label L { (Sx.eat L [41] (Sx.eat L [40] τ)) with at' := (Sx.eat L [41] (Sx.eat L [40] τ)).at' + 1 }).2).2)
  have HOK := Lib.hid (fun h => Sx.Le.ok (Sx.le_Bl hL.ends (Sx.type L true (Sx.label L { (Sx.eat L [41] (Sx.eat L [40] τ)) with at' := (Sx.eat L [41] (Sx.eat L [40] τ)).at' + 1 }).1 (Sx.label L { (Sx.eat L [41] (Sx.eat L [40] τ)) with at' := (Sx.eat L [41] (Sx.eat L [40] τ)).at' + 1 }).2).2) h)
  clear hres
  clear h0 hP hL h1 h2
  go_enter Tryz.func34, Tryz.ntmps34
  go_wp2_with (first
    | (refine wpl_alloc HS.out _ rfl fnZ ?_; intro b_r w1 HS1; clear HS)
    | (refine wpl_alloc HS1.out _ rfl fnZ ?_; intro b_s w2 HS2; clear HS1)
    | (go_at_call 65; refine (HS2.out.call1 C1.out).mono ?_; rintro e w3 ⟨J, ⟨rfl, rfl⟩, hs⟩; simp only [List.cons_append, List.nil_append] at hs; have HS3 := Lib.hid hs; clear hs HS2)
    | (go_at_call 66; refine (HS3.out.call1 C2.out).mono ?_; rintro e w4 ⟨J, ⟨rfl, rfl⟩, hs⟩; simp only [List.cons_append, List.nil_append] at hs; have HS4 := Lib.hid hs; clear hs HS3)
    | (refine wpl_alloc HS4.out _ rfl tokZ ?_; intro b_n w5 HS5; clear HS4)
    | (refine wpl_storeS HS5.out 1 rfl rfl tokT rfl (fitsT _ _ _ _) ?_; intro w6 hs; have HS6 := Lib.hid (show St _ _ _ (_ :: _ :: _ :: _ :: []) from hs.out); clear hs HS5)
    | (refine wpl_load HS6.out 1 rfl rfl intO rfl ?_)
    | (refine wpl_store HS6.out 2 rfl rfl intO (of_decide_eq_true rfl) rfl ?_; intro w7 hs; have HS7 := Lib.hid (show St _ _ _ (_ :: _ :: _ :: _ :: []) from hs.out); clear hs HS6)
    | (refine wpl_load HS7.out 1 rfl rfl strO rfl ?_)
    | (refine wpl_store HS7.out 2 rfl rfl strO (of_decide_eq_true rfl) rfl ?_; intro w8 hs; have HS8 := Lib.hid (show St _ _ _ (_ :: _ :: _ :: _ :: []) from hs.out); clear hs HS7)
    | (go_at_call 65; refine (HS8.out.call1 C3.out).mono ?_; rintro e w9 ⟨J, ⟨rfl, rfl⟩, hs⟩; simp only [List.cons_append, List.nil_append] at hs; have HS9 := Lib.hid hs; clear hs HS8)
    | (go_at_call 67; refine (HS9.out.call1 C4.out).mono ?_; rintro e w10 ⟨J, ⟨rfl, rfl⟩, hs⟩; simp only [List.cons_append, List.nil_append] at hs; have HS10 := Lib.hid hs; clear hs HS9)
    | (go_at_call 65; refine (HS10.out.call1 C5.out).mono ?_; rintro e w11 ⟨J, ⟨rfl, rfl⟩, hs⟩; simp only [List.cons_append, List.nil_append] at hs; have HS11 := Lib.hid hs; clear hs HS10)
    | (go_at_call 69; refine (HS11.out.call1 C6.out).mono ?_; rintro e w12 ⟨J, ⟨rfl, rfl⟩, hs⟩; simp only [List.cons_append, List.nil_append] at hs; have HS12 := Lib.hid hs; clear hs HS11)
    | (refine wpl_store HS12.out 2 rfl rfl boolO (of_decide_eq_true rfl) rfl ?_; intro w13 hs; have HS13 := Lib.hid (show St _ _ _ (_ :: _ :: _ :: _ :: []) from hs.out); clear hs HS12)
    | (go_at_call 70; refine (HS13.out.call1 C7.out).mono ?_; rintro e w14 ⟨J, ⟨rfl, rfl⟩, hs⟩; simp only [List.cons_append, List.nil_append] at hs; have HS14 := Lib.hid hs; clear hs HS13)
    | (go_at_call 71; refine (HS14.out.call1 C8.out).mono ?_; rintro e w15 ⟨J, ⟨rfl, rfl⟩, hs⟩; simp only [List.cons_append, List.nil_append] at hs; have HS15 := Lib.hid hs; clear hs HS14)
    | (refine wpl_storeMid HS15.out 2 rfl rfl tyT (fits3i _ _ _) (of_decide_eq_true rfl) ?_; intro w16 hs; have HS16 := Lib.hid (show St _ _ _ (_ :: _ :: _ :: _ :: []) from hs.out); clear hs HS15)
    | (go_at_call 72; refine (HS16.out.call1 CB.out).mono ?_; rintro e w17 ⟨J, ⟨q_B, l_B, c_B, ss_B, rfl, rfl, hx_B⟩, hs⟩; simp only [List.cons_append, List.nil_append] at hs; have HS17 := Lib.hid hs; clear hs HS16; have HX_B := Lib.hid hx_B; clear hx_B)
    | (refine wpl_store HS17.out 3 rfl rfl stmtsO (of_decide_eq_true rfl) rfl ?_; intro w18 hs; have HS18 := Lib.hid (show St _ _ _ (_ :: _ :: _ :: _ :: _ :: []) from hs.out); clear hs HS17)
    | (refine wpl_loadS HS18.out 3 rfl rfl fnT rfl ?_)
    | (refine wpl_storeS HS18.out 4 rfl rfl fnT rfl fitsF ?_; intro w19 hs; have HS19 := Lib.hid (show St _ _ _ (_ :: _ :: _ :: _ :: _ :: []) from hs.out); clear hs HS18))
  refine bp_cell HS19.out 4 fnT rfl rfl rfl rfl rfl ⟨_, ⟨t.pos, t.text, true, _, _, _, _, _, _, _, _, _, [], ss_B, rfl, rfl, fun h => ?_⟩, (HS19.out.sel [0, 0] rfl).to fun P h => h.under fun P h => psI_nil h⟩
  rw [← HX_B.out h]
end Go.Proofs.YtjfdcnggnldgdaaGreatDoor
end
section
namespace Go.Proofs.YtjfdcnggnldgdaaGreatDoor
open Go.ChangeShapes Go.WideShapes Go.ChangeAt Go.RowKit
set_option linter.unusedVariables false
set_option linter.unusedSimpArgs false

/-- how many parameters the slice in a function's third cell has -/
def pLen (b : Nat) (w : World) : Nat := lenOf ((w.cell? ⟨b, 2, none⟩).getD undef)
theorem St.pLen {X : Nat → Prop} {w0 w : World} {I : List It} (h : St X w0 w I) (i : Nat) {b : Nat} {cs : Array Value} (hi : I[i]? = some (.row b 50 cs)) {q : Option Addr} {n c : Nat} (hc : cs[2]? = some (.slice q n c)) : pLen b w = n := by
  unfold Go.Proofs.YtjfdcnggnldgdaaGreatDoor.pLen; rw [h.cell i hi, hc]; rfl
end Go.Proofs.YtjfdcnggnldgdaaGreatDoor
end
