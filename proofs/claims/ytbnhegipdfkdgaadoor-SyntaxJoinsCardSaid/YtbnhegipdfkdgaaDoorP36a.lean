/-
Functions in the heap, and a program.
-/
import Derived.Test.YtbnhegipdfkdgaaDoorP35a
namespace Go.Proofs.YtbnhegipdfkdgaaDoor
open Go.ChangeShapes Go.WideShapes Go.ChangeAt Go.RowKit
set_option linter.unusedVariables false
set_option linter.unusedSimpArgs false

/-- cells that are a function -/
def fnOn (w : World) (P : Nat → Prop) (f : Sx.F) (xs : List Value) : Prop :=
  ∃ vp vb xb, xs = (fnA f.pos f.name vp f.has f.result.elem f.result.len f.result.label vb).toList ∧ OwnP w P 53 6 vp f.params.length (f.params.flatMap paL) ∧ (OwnP w P 42 11 vb f.body.length xb ∧ slOn w P f.body xb)
def flOn (w : World) (P : Nat → Prop) : List Sx.F → List Value → Prop
  | [], xs => xs = []
  | f :: fs, xs => ∃ c r, xs = c ++ r ∧ fnOn w P f c ∧ flOn w P fs r
theorem fnOn_mono {w w' : World} {P P' : Nat → Prop} (e : ∀ k, P k → w'.heap[k]? = w.heap[k]?) (f : ∀ k, P k → P' k) {x : Sx.F} {cs : List Value} (h : fnOn w P x cs) : fnOn w' P' x cs := by
  obtain ⟨vp, vb, xb, h1, h2, h3, h4⟩ := h
  exact ⟨vp, vb, xb, h1, h2.mono e f, h3.mono e f, slOn_mono e f _ xb h4⟩
theorem flOn_mono {w w' : World} {P P' : Nat → Prop} (e : ∀ k, P k → w'.heap[k]? = w.heap[k]?) (f : ∀ k, P k → P' k) : ∀ (l : List Sx.F) (xs : List Value), flOn w P l xs → flOn w' P' l xs
  | [], xs, h => h
  | x :: fs, xs, ⟨c, r, h1, h2, h3⟩ => ⟨c, r, h1, fnOn_mono e f h2, flOn_mono e f fs r h3⟩
theorem flOn_app {w : World} {P : Nat → Prop} : ∀ (l l' : List Sx.F) (xs ys : List Value), flOn w P l xs → flOn w P l' ys → flOn w P (l ++ l') (xs ++ ys)
  | [], l', xs, ys, h, h' => by subst h; exact h'
  | x :: fs, l', xs, ys, ⟨c, r, h1, h2, h3⟩, h' => ⟨c, r ++ ys, by rw [h1, List.append_assoc], h2, flOn_app fs l' r ys h3 h'⟩
theorem flOn_one {w : World} {P : Nat → Prop} {x : Sx.F} {c : List Value} (h : fnOn w P x c) : flOn w P [x] c := ⟨c, [], by rw [List.append_nil], h, rfl⟩
/-- functions, as cells -/
def flI (fs : List Sx.F) (xs : List Value) : It := .hp
  { on := fun w P => flOn w P fs xs
    loc := fun w w' P h e => flOn_mono e (fun _ h => h) fs xs h
    wide := fun w P P' h f => flOn_mono (fun _ _ => rfl) f fs xs h }
/-- a slice of functions -/
def fsI (v : Value) (fs : List Sx.F) : It := .hp
  { on := fun w P => ∃ xs, Sep w [ownI 37 8 v fs.length xs, flI fs xs] P
    loc := fun w w' P ⟨xs, h⟩ e => ⟨xs, h.loc e⟩
    wide := fun w P P' ⟨xs, h⟩ f => ⟨xs, h.wide f⟩ }
theorem fsI_open {w : World} {I : List It} {P : Nat → Prop} {v : Value} {fs : List Sx.F} (h : Sep w (fsI v fs :: I) P) : ∃ xs, Sep w (ownI 37 8 v fs.length xs :: flI fs xs :: I) P := by
  obtain ⟨A, B, h1, h2, h3, ⟨xs, h4⟩, h5⟩ := h
  exact ⟨xs, Sep.cat h4 h5 h1 h2 h3⟩
theorem fsI_close {w : World} {I : List It} {P : Nat → Prop} {v : Value} {fs : List Sx.F} {n : Nat} {xs : List Value} (hn : n = fs.length) (h : Sep w (ownI 37 8 v n xs :: flI fs xs :: I) P) : Sep w (fsI v fs :: I) P := by
  subst hn
  obtain ⟨A, B, h1, h2, h3, h4, h5⟩ := Sep.parts (I := [ownI 37 8 v fs.length xs, flI fs xs]) (J := I) h
  exact ⟨A, B, h1, h2, h3, ⟨xs, h4⟩, h5⟩
theorem fsI_nil {w : World} {I : List It} {P : Nat → Prop} (h : Sep w I P) : Sep w (fsI (.slice none 0 0) [] :: I) P :=
  fsI_close rfl (Sep.emp (Sep.emp h (show (flI [] []).on w (fun _ => False) from rfl)) ⟨World.ownsRow_nil _ _ _ _, fun g hg => by cases hg⟩)
theorem fnOn_of {w : World} {P : Nat → Prop} {p e l b : Int} {nm : List UInt8} {vp vb : Value} {ps : List Sx.Pa} {bs : List Sx.S} {h : Bool} (hs : Sep w [psI vp ps, ssI vb bs] P) : fnOn w P ⟨p, nm, ps, h, ⟨e, l, b⟩, bs⟩ (fnA p nm vp h e l b vb).toList := by
  obtain ⟨A, B, h1, h2, h3, h4, C, D, h5, h6, h7, ⟨xb, hb⟩, _⟩ := hs
  obtain ⟨A1, B1, a1, a2, a3, a4, C1, D1, a5, a6, a7, a8, a9⟩ := hb
  exact ⟨vp, vb, xb, rfl, OwnP.mono h4 (fun _ _ => rfl) h1, OwnP.mono a4 (fun _ _ => rfl) (fun k hk => h2 k (h5 k (a1 k hk))), slOn_mono (fun _ _ => rfl) (fun k hk => h2 k (h5 k (a2 k (a5 k hk)))) bs xb a8⟩
theorem flI_more {w : World} {I : List It} {P : Nat → Prop} {p e l b : Int} {nm : List UInt8} {vp vb : Value} {ps : List Sx.Pa} {bs : List Sx.S} {h : Bool} {fs : List Sx.F} {xs : List Value}
    (hs : Sep w (flI fs xs :: psI vp ps :: ssI vb bs :: I) P) : Sep w (flI (fs ++ [⟨p, nm, ps, h, ⟨e, l, b⟩, bs⟩]) (xs ++ (fnA p nm vp h e l b vb).toList) :: I) P := by
  obtain ⟨A, B, h1, h2, h3, h4, h5⟩ := hs
  obtain ⟨C, D, h6, h7, h8, h9, h10⟩ := Sep.parts (I := [psI vp ps, ssI vb bs]) (J := I) h5
  refine ⟨fun k => A k ∨ C k, D, fun k hk => hk.elim (h1 k) fun hc => h2 k (h6 k hc), fun k hk => h2 k (h7 k hk), fun k hk hd => hk.elim (fun ha => h3 k ha (h7 k hd)) fun hc => h8 k hc hd, ?_, h10⟩
  exact flOn_app _ _ _ _ (flOn_mono (fun _ _ => rfl) (fun _ => Or.inl) fs xs h4) (flOn_one (fnOn_mono (fun _ _ => rfl) (fun _ => Or.inr) (fnOn_of h9)))
theorem St.pushF {X : Nat → Prop} {w0 w : World} {x r y z : It} {m : Nat} {p te tl tb : Int} {nm : List UInt8} {vp vb v' : Value} {ps : List Sx.Pa} {bs : List Sx.S} {fs : List Sx.F} {hh : Bool} {xs : List Value}
    (h : St X w0 w [x, r, psI vp ps, ssI vb bs, ownI 37 8 v' m (xs ++ (fnA p nm vp hh te tl tb vb).toList), flI fs xs, y, z]) :
    St X w0 w [x, ownI 37 8 v' m (xs ++ (fnA p nm vp hh te tl tb vb).toList), flI (fs ++ [⟨p, nm, ps, hh, ⟨te, tl, tb⟩, bs⟩]) (xs ++ (fnA p nm vp hh te tl tb vb).toList), y, z] :=
  (h.sel [0, 3, 3, 1, 1, 1, 1] rfl).to fun P h => h.under fun P h => h.under fun P h => flI_more h
theorem fnB (p : Int) (nm : List UInt8) (h : Bool) (e l b : Int) (q1 q2 : Option Addr) (l1 l2 c1 c2 : Nat) : Tryd.prog.builtSlice 37 1 [(0, .agg (fnA p nm (.slice q1 l1 c1) h e l b (.slice q2 l2 c2)))] = some (fnA p nm (.slice q1 l1 c1) h e l b (.slice q2 l2 c2)) := by kernel_rfl
theorem fnEl : Elem 37 8 := ⟨by decide, ⟨.agg (fnA 0 [] (.slice none 0 0) false 0 0 0 (.slice none 0 0)), by kernel_rfl, rfl⟩⟩
theorem fnOne (p : Int) (nm : List UInt8) (h : Bool) (e l b : Int) (q1 q2 : Option Addr) (l1 l2 c1 c2 : Nat) : (fnA p nm (.slice q1 l1 c1) h e l b (.slice q2 l2 c2)).all (·.oneCell') = true := by simp [Value.oneCell']
theorem pgT : StructT 25 1 := ⟨⟨_, Tryd.underlying25⟩, by kernel_rfl⟩
theorem pgZ : Zero 25 #[.slice none 0 0] := by unfold Zero; kernel_rfl
theorem fitsG {q : Option Addr} {l c : Nat} : Fits 1 #[.slice q l c] := ⟨rfl, by simp [Value.oneCell']⟩
section
variable {L : List Lx.Tok} (hL : Sx.Ends L)
include hL
theorem Sx.Fs_stop {σ : Sx.R} (hi : σ.at' < L.length) (h : σ.err ≠ 0 ∨ (Sx.tk L σ).kind = 0) : Sx.Fs L σ = ([], σ) := by
  have h' := Sx.fuel_M L σ
  unfold Sx.Fs
  rw [Sx.enough_functions hL _ (Sx.fuel L + 1) σ hi (by omega) (by omega), Sx.functions, if_neg]
  rcases h with h | h
  · simp [h]
  · simp [h]
theorem Sx.Fs_go {σ : Sx.R} (hi : σ.at' < L.length) (he : σ.err = 0) (hk : (Sx.tk L σ).kind ≠ 0) : Sx.Fs L σ = ((Sx.function L σ).1 :: (Sx.Fs L (Sx.function L σ).2).1, (Sx.Fs L (Sx.function L σ).2).2) := by
  have h' := Sx.fuel_M L σ
  unfold Sx.Fs
  rw [Sx.enough_functions hL _ (Sx.fuel L + 1) σ hi (by omega) (by omega), Sx.functions, if_pos (by simp [he, hk])]
theorem Sx.function_at {σ : Sx.R} (hi : σ.at' < L.length) (he : σ.err = 0) (h : (Sx.function L σ).2.err = 0) : σ.at' + 1 ≤ (Sx.function L σ).2.at' := by
  have h1 := Sx.M_function hL he hi
  have h3 : (Sx.function L σ).2.at' < L.length := (Sx.le_function hL σ).2.2.1 hi
  unfold Sx.M at h1
  rw [if_neg (by simpa using h), if_neg (by simpa using he)] at h1
  omega
end
/-- how many functions a program has -/
def fLen (b : Nat) (w : World) : Nat := lenOf ((w.cell? ⟨b, 0, none⟩).getD undef)
theorem St.fLen {X : Nat → Prop} {w0 w : World} {I : List It} (h : St X w0 w I) (i : Nat) {b : Nat} {t : TypeId} {q : Option Addr} {l c : Nat} (hI : I[i]? = some (.row b t #[.slice q l c])) : fLen b w = l := by
  unfold Go.Proofs.YtbnhegipdfkdgaaDoor.fLen
  rw [h.cell i hI 0]
  rfl
def PGP (b : Nat) (L : List Lx.Tok) (r : List Sx.F × Sx.R) (e : Ending) (J : List It) : Prop :=
  ∃ (q : Option Addr) (l c : Nat) (fs : List Sx.F), e = .returned (.agg #[.slice q l c]) ∧ J = [rd b L r.2, fsI (.slice q l c) fs] ∧ (r.2.err = 0 → r.1 = fs)
set_option maxHeartbeats 8000000 in
set_option maxRecDepth 100000 in
theorem program_fn (b : Nat) (L : List Lx.Tok) (hL : Sx.Ok L) (σ : Sx.R) (ho : σ.opn = 0) : Fn 10 #[.pointer (some ⟨b, 0, none⟩)] [rd b L σ] (PGP b L (Sx.Fs L σ)) := by
  intro w P hP h0
  have HS := Lib.hid (St.start hP h0)
  have HL := Lib.hid hL
  have HO := Lib.hid ho
  clear h0 hP hL ho
  go_enter Tryd.func10, Tryd.ntmps10
  go_wp2_with (first
    | (first | (refine wpl_alloc HS.out _ rfl pgZ ?_; intro b2 w1 HS1; clear HS) | (refine wpl_alloc HS1.out _ rfl pgZ ?_; intro b3 w2 HSA; clear HS1)))
  obtain ⟨N, hN⟩ : ∃ N : Nat, N = 65537 := ⟨_, rfl⟩
  have HNN := Lib.hid hN
  clear hN
  simp only [Act.put, List.setIfInBounds_toArray, List.set_cons_zero, List.set_cons_succ]
  go_loopw [] (fun wr => ∃ (k : Nat) (q : Option Addr) (c : Nat) (fs : List Sx.F) (xs : List Value) (τ : Sx.R), k ≤ N ∧ Hid (fs.length = k ∧ St P w wr [rd b L τ, ownI 37 8 (.slice q k c) k xs, flI fs xs, .row b3 25 #[.slice q k c], .row b2 25 #[.slice none 0 0]] ∧ τ.opn = 0 ∧ (τ.err = 0 → k ≤ τ.at') ∧ (Sx.Fs L σ).2 = (Sx.Fs L τ).2 ∧ ((Sx.Fs L τ).2.err = 0 → (Sx.Fs L σ).1 = fs ++ (Sx.Fs L τ).1))) (fun wr => N + 1 - fLen b3 wr)
  case atStart =>
    refine ⟨0, none, 0, [], [], σ, Nat.zero_le _, Lib.hid ⟨rfl, HSA.out.to fun P h => h.under fun P h => ?_, HO.out, fun _ => Nat.zero_le _, rfl, fun _ => rfl⟩⟩
    exact Sep.emp (Sep.emp h (show (flI [] []).on _ (fun _ => False) from rfl)) ⟨World.ownsRow_nil _ _ _ _, fun g hg => by cases hg⟩
  case round =>
    obtain ⟨k, q, c, fs, xs, τ, hk, HK⟩ := hrel
    have HST := Lib.hid HK.out.2.1
    have hat := HST.out.at'
    have C2 := Lib.hid (next_fn b L τ)
    have hF0 := tokF0
    have HAT := Lib.hid hat
    by_cases hkd : (Sx.pk L τ).kind = 0
    · have hex : τ.err ≠ 0 ∨ (Sx.tk L τ).kind = 0 := by
        by_cases he : τ.err = 0
        · exact Or.inr (by rw [← Sx.pk_tk he]; exact hkd)
        · exact Or.inl he
      have HF := Lib.hid (Sx.Fs_stop HL.out.ends hat hex)
      clear hex hat hk HO
      go_wp2_with (first
        | (go_at_call 17; refine (HST.out.call1 C2.out).mono ?_; rintro e w12 ⟨J, ⟨rfl, rfl⟩, hs⟩; simp only [List.cons_append, List.nil_append] at hs; have HS2 := Lib.hid hs; clear hs)
        | (refine wpl_loadS HS2.out 3 rfl rfl pgT rfl ?_)
        | (refine wpl_storeS HS2.out 4 rfl rfl pgT rfl fitsG ?_; intro w13 hs; have HS13 := Lib.hid (show St _ _ _ (_ :: _ :: _ :: _ :: _ :: []) from hs.out); clear hs HS2))
      refine bp_cell HS13.out 4 pgT rfl rfl rfl rfl rfl ⟨_, ⟨q, k, c, fs, rfl, rfl, fun h => ?_⟩, ?_⟩
      · rw [HK.out.2.2.2.2.2 (by rw [← HK.out.2.2.2.2.1]; exact h), HF.out, List.append_nil]
      · rw [HK.out.2.2.2.2.1, HF.out]
        exact (St.sel HS13.out [0, 0, 0] rfl).to fun P h => h.under fun P h => fsI_close HK.out.1.symm h
    · have he : τ.err = 0 := by
        apply Classical.byContradiction
        intro he
        exact hkd (Sx.end_tok HL.out.ends HL.out.clean hat he).1
      have hkt : (Sx.tk L τ).kind ≠ 0 := by rw [← Sx.pk_tk he]; exact hkd
      have hkb : k < 65537 := by
        have h1 := HK.out.2.2.2.1 he
        have h2 := HL.out.len
        omega
      have hnm : k < nMax := by unfold nMax; omega
      have CX := Lib.hid (function_fn b L HL.out τ HK.out.2.2.1)
      have HN := Lib.hid (Sx.Fs_go HL.out.ends hat he hkt)
      have HHe := Lib.hid he
      have HKB := Lib.hid hkb
      clear he hkt hat hk hkb HO
      go_wp2_with (first
        | (go_at_call 17; refine (HST.out.call1 C2.out).mono ?_; rintro e w12 ⟨J, ⟨rfl, rfl⟩, hs⟩; simp only [List.cons_append, List.nil_append] at hs; have HS2 := Lib.hid hs; clear hs))
      refine wp_region_held_drew (S := fun _ => True) (by kernel_rfl) (trivial) (fun hHeld => ?_)
      refine wpAnyH_take (i := 0) (v := ?_) rfl (by kernel_rfl) (by kernel_rfl) (by kernel_rfl) (fun _ _ _ h => h) (Or.inl ⟨by rfl, ?_⟩) (by assumption) ?_
      rotate_left
      · intro w hSw
        (try dsimp only at hSw)
        go_simp
        (try with_reducible rfl)
      (try simp only [Act.put, List.setIfInBounds_toArray, List.set_cons_zero, List.set_cons_succ, List.getElem_toArray, List.getElem_cons_succ, List.getElem_cons_zero])
      refine wpAnyH_take (i := 2) (v := ?_) rfl (by kernel_rfl) (by kernel_rfl) (by kernel_rfl) (fun _ _ _ h => h) (Or.inl ⟨by rfl, ?_⟩) (by assumption) ?_
      rotate_left
      · intro w hSw
        (try dsimp only at hSw)
        go_simp
        (try with_reducible rfl)
      (try simp only [Act.put, List.setIfInBounds_toArray, List.set_cons_zero, List.set_cons_succ, List.getElem_toArray, List.getElem_cons_succ, List.getElem_cons_zero])
      refine wpAnyH_ready (rs := [1, 3]) (by kernel_rfl) (by simp) ?_
      refine AllReadyH.cons rfl (fun K hK => ?_) (AllReadyH.cons rfl (fun K hK => ?_) AllReadyH.nil)
      · (refine wp_load1 HS2.out.drew 3 rfl rfl funcsO rfl ?_)
        refine hK.out _ _ (trivial) (fun hHeld => ?_)
        clear hK K
        (try simp only [Act.put, List.setIfInBounds_toArray, List.set_cons_zero, List.set_cons_succ, List.getElem_toArray, List.getElem_cons_succ, List.getElem_cons_zero])
        refine wpAnyH_ready (rs := [3]) (by kernel_rfl) (by simp) ?_
        refine AllReadyH.cons rfl (fun K hK => ?_) AllReadyH.nil
        go_simp
        (go_at_call 18; refine (HS2.out.drew.call1 CX.out).mono ?_; rintro e w30 ⟨J, ⟨p, nm, hh, te, tl, tb, q1, q2, l1, l2, c1, c2, ps, bs, rfl, rfl, hx⟩, hs⟩; simp only [List.cons_append, List.nil_append] at hs; have HX := Lib.hid hx; have HS30 := Lib.hid hs; clear hs hx)
        refine hK.out _ _ (trivial) (fun hHeld => ?_)
        clear hK K
        (try simp only [Act.put, List.setIfInBounds_toArray, List.set_cons_zero, List.set_cons_succ, List.getElem_toArray, List.getElem_cons_succ, List.getElem_cons_zero])
        refine wpAnyH_ready (rs := [4]) (by kernel_rfl) (by simp) ?_
        refine AllReadyH.cons rfl (fun K hK => ?_) AllReadyH.nil
        (refine wp_slice HS30.out rfl Tryd.underlying23 (fnB _ _ _ _ _ _ _ _ _ _ _ _) ?_; intro b31 w31 hs; have HS31 := Lib.hid (show St _ _ _ (_ :: _ :: _ :: _ :: _ :: _ :: _ :: _ :: []) from hs.out); clear hs)
        refine hK.out _ _ (trivial) (fun hHeld => ?_)
        clear hK K
        (try simp only [Act.put, List.setIfInBounds_toArray, List.set_cons_zero, List.set_cons_succ, List.getElem_toArray, List.getElem_cons_succ, List.getElem_cons_zero])
        refine wpAnyH_ready (rs := [5]) (by kernel_rfl) (by simp) ?_
        refine AllReadyH.cons rfl (fun K hK => ?_) AllReadyH.nil
        (refine wp_append HS31.out 4 1 rfl rfl rfl Tryd.underlying23 fnEl rfl (fnOne _ _ _ _ _ _ _ _ _ _ _ _) hnm ?_; intro v32 w32 hs h32; obtain ⟨q32, cap32, rfl⟩ := hs.out.ownLen 4 rfl; have HS32 := Lib.hid (show St _ _ _ (_ :: _ :: _ :: _ :: _ :: _ :: _ :: _ :: []) from hs.out); clear hs)
        refine hK.out _ _ (trivial) (fun hHeld => ?_)
        clear hK K
        (try simp only [Act.put, List.setIfInBounds_toArray, List.set_cons_zero, List.set_cons_succ, List.getElem_toArray, List.getElem_cons_succ, List.getElem_cons_zero])
        refine wpAnyH_take (i := 6) (v := ?_) rfl (by kernel_rfl) (by kernel_rfl) (by kernel_rfl) (fun _ _ _ h => h) (Or.inl ⟨by rfl, ?_⟩) (by assumption) ?_
        rotate_left
        · intro w hSw
          (try dsimp only at hSw)
          go_simp
          (try with_reducible rfl)
        (try simp only [Act.put, List.setIfInBounds_toArray, List.set_cons_zero, List.set_cons_succ, List.getElem_toArray, List.getElem_cons_succ, List.getElem_cons_zero])
        refine wpAnyH_ready (rs := [7]) (by kernel_rfl) (by simp) ?_
        refine AllReadyH.cons rfl (fun K hK => ?_) AllReadyH.nil
        (refine wp_store1 HS32.out 6 rfl rfl funcsO (of_decide_eq_true rfl) rfl ?_; intro w33 hs; have HS33 := Lib.hid (show St _ _ _ (_ :: _ :: _ :: _ :: _ :: _ :: _ :: _ :: []) from hs.out); clear hs)
        refine hK.out _ _ (trivial) (fun hHeld => ?_)
        clear hK K
        (try simp only [Act.put, List.setIfInBounds_toArray, List.set_cons_zero, List.set_cons_succ, List.getElem_toArray, List.getElem_cons_succ, List.getElem_cons_zero])
        refine wpAnyH_done (by kernel_rfl) ?_ _
        try go_wp2
        refine ⟨⟨k + 1, q32, cap32, fs ++ [⟨p, nm, ps, hh, ⟨te, tl, tb⟩, bs⟩], xs ++ (fnA p nm (.slice q1 l1 c1) hh te tl tb (.slice q2 l2 c2)).toList, (Sx.function L τ).2, ?_, Lib.hid ⟨?_, HS33.out.pushF, ?_, ?_, ?_, ?_⟩⟩, ?_⟩
        · have := HKB.out; have := HNN.out; omega
        · rw [List.length_append, HK.out.1]; rfl
        · rw [Sx.op_function]; exact HK.out.2.2.1
        · intro hz
          have h1 := Sx.function_at HL.out.ends HAT.out HHe.out hz
          have h3 := HK.out.2.2.2.1 HHe.out
          omega
        · rw [HK.out.2.2.2.2.1, HN.out]
        · intro hz
          have h9 : (Sx.function L τ).2.err = 0 := Sx.Le.ok (Sx.le_functions HL.out.ends _ _) hz
          rw [HK.out.2.2.2.2.2 (by rw [HN.out]; exact hz), HN.out, List.append_assoc, ← HX.out h9]; rfl
        · rw [HS33.out.fLen 6 rfl, HST.out.fLen 3 rfl]
          have := HKB.out
          have := HNN.out
          omega
      · go_simp
        (go_at_call 18; refine (HS2.out.drew.call1 CX.out).mono ?_; rintro e w30 ⟨J, ⟨p, nm, hh, te, tl, tb, q1, q2, l1, l2, c1, c2, ps, bs, rfl, rfl, hx⟩, hs⟩; simp only [List.cons_append, List.nil_append] at hs; have HX := Lib.hid hx; have HS30 := Lib.hid hs; clear hs hx)
        refine hK.out _ _ (trivial) (fun hHeld => ?_)
        clear hK K
        (try simp only [Act.put, List.setIfInBounds_toArray, List.set_cons_zero, List.set_cons_succ, List.getElem_toArray, List.getElem_cons_succ, List.getElem_cons_zero])
        refine wpAnyH_ready (rs := [1, 4]) (by kernel_rfl) (by simp) ?_
        refine AllReadyH.cons rfl (fun K hK => ?_) (AllReadyH.cons rfl (fun K hK => ?_) AllReadyH.nil)
        · (refine wp_load1 HS30.out 5 rfl rfl funcsO rfl ?_)
          refine hK.out _ _ (trivial) (fun hHeld => ?_)
          clear hK K
          (try simp only [Act.put, List.setIfInBounds_toArray, List.set_cons_zero, List.set_cons_succ, List.getElem_toArray, List.getElem_cons_succ, List.getElem_cons_zero])
          refine wpAnyH_ready (rs := [4]) (by kernel_rfl) (by simp) ?_
          refine AllReadyH.cons rfl (fun K hK => ?_) AllReadyH.nil
          (refine wp_slice HS30.out rfl Tryd.underlying23 (fnB _ _ _ _ _ _ _ _ _ _ _ _) ?_; intro b31 w31 hs; have HS31 := Lib.hid (show St _ _ _ (_ :: _ :: _ :: _ :: _ :: _ :: _ :: _ :: []) from hs.out); clear hs)
          refine hK.out _ _ (trivial) (fun hHeld => ?_)
          clear hK K
          (try simp only [Act.put, List.setIfInBounds_toArray, List.set_cons_zero, List.set_cons_succ, List.getElem_toArray, List.getElem_cons_succ, List.getElem_cons_zero])
          refine wpAnyH_ready (rs := [5]) (by kernel_rfl) (by simp) ?_
          refine AllReadyH.cons rfl (fun K hK => ?_) AllReadyH.nil
          (refine wp_append HS31.out 4 1 rfl rfl rfl Tryd.underlying23 fnEl rfl (fnOne _ _ _ _ _ _ _ _ _ _ _ _) hnm ?_; intro v32 w32 hs h32; obtain ⟨q32, cap32, rfl⟩ := hs.out.ownLen 4 rfl; have HS32 := Lib.hid (show St _ _ _ (_ :: _ :: _ :: _ :: _ :: _ :: _ :: _ :: []) from hs.out); clear hs)
          refine hK.out _ _ (trivial) (fun hHeld => ?_)
          clear hK K
          (try simp only [Act.put, List.setIfInBounds_toArray, List.set_cons_zero, List.set_cons_succ, List.getElem_toArray, List.getElem_cons_succ, List.getElem_cons_zero])
          refine wpAnyH_take (i := 6) (v := ?_) rfl (by kernel_rfl) (by kernel_rfl) (by kernel_rfl) (fun _ _ _ h => h) (Or.inl ⟨by rfl, ?_⟩) (by assumption) ?_
          rotate_left
          · intro w hSw
            (try dsimp only at hSw)
            go_simp
            (try with_reducible rfl)
          (try simp only [Act.put, List.setIfInBounds_toArray, List.set_cons_zero, List.set_cons_succ, List.getElem_toArray, List.getElem_cons_succ, List.getElem_cons_zero])
          refine wpAnyH_ready (rs := [7]) (by kernel_rfl) (by simp) ?_
          refine AllReadyH.cons rfl (fun K hK => ?_) AllReadyH.nil
          (refine wp_store1 HS32.out 6 rfl rfl funcsO (of_decide_eq_true rfl) rfl ?_; intro w33 hs; have HS33 := Lib.hid (show St _ _ _ (_ :: _ :: _ :: _ :: _ :: _ :: _ :: _ :: []) from hs.out); clear hs)
          refine hK.out _ _ (trivial) (fun hHeld => ?_)
          clear hK K
          (try simp only [Act.put, List.setIfInBounds_toArray, List.set_cons_zero, List.set_cons_succ, List.getElem_toArray, List.getElem_cons_succ, List.getElem_cons_zero])
          refine wpAnyH_done (by kernel_rfl) ?_ _
          try go_wp2
          refine ⟨⟨k + 1, q32, cap32, fs ++ [⟨p, nm, ps, hh, ⟨te, tl, tb⟩, bs⟩], xs ++ (fnA p nm (.slice q1 l1 c1) hh te tl tb (.slice q2 l2 c2)).toList, (Sx.function L τ).2, ?_, Lib.hid ⟨?_, HS33.out.pushF, ?_, ?_, ?_, ?_⟩⟩, ?_⟩
          · have := HKB.out; have := HNN.out; omega
          · rw [List.length_append, HK.out.1]; rfl
          · rw [Sx.op_function]; exact HK.out.2.2.1
          · intro hz
            have h1 := Sx.function_at HL.out.ends HAT.out HHe.out hz
            have h3 := HK.out.2.2.2.1 HHe.out
            omega
          · rw [HK.out.2.2.2.2.1, HN.out]
          · intro hz
            have h9 : (Sx.function L τ).2.err = 0 := Sx.Le.ok (Sx.le_functions HL.out.ends _ _) hz
            rw [HK.out.2.2.2.2.2 (by rw [HN.out]; exact hz), HN.out, List.append_assoc, ← HX.out h9]; rfl
          · rw [HS33.out.fLen 6 rfl, HST.out.fLen 3 rfl]
            have := HKB.out
            have := HNN.out
            omega
        · (refine wp_slice HS30.out rfl Tryd.underlying23 (fnB _ _ _ _ _ _ _ _ _ _ _ _) ?_; intro b31 w31 hs; have HS31 := Lib.hid (show St _ _ _ (_ :: _ :: _ :: _ :: _ :: _ :: _ :: _ :: []) from hs.out); clear hs)
          refine hK.out _ _ (trivial) (fun hHeld => ?_)
          clear hK K
          (try simp only [Act.put, List.setIfInBounds_toArray, List.set_cons_zero, List.set_cons_succ, List.getElem_toArray, List.getElem_cons_succ, List.getElem_cons_zero])
          refine wpAnyH_ready (rs := [1]) (by kernel_rfl) (by simp) ?_
          refine AllReadyH.cons rfl (fun K hK => ?_) AllReadyH.nil
          (refine wp_load1 HS31.out 6 rfl rfl funcsO rfl ?_)
          refine hK.out _ _ (trivial) (fun hHeld => ?_)
          clear hK K
          (try simp only [Act.put, List.setIfInBounds_toArray, List.set_cons_zero, List.set_cons_succ, List.getElem_toArray, List.getElem_cons_succ, List.getElem_cons_zero])
          refine wpAnyH_ready (rs := [5]) (by kernel_rfl) (by simp) ?_
          refine AllReadyH.cons rfl (fun K hK => ?_) AllReadyH.nil
          (refine wp_append HS31.out 4 1 rfl rfl rfl Tryd.underlying23 fnEl rfl (fnOne _ _ _ _ _ _ _ _ _ _ _ _) hnm ?_; intro v32 w32 hs h32; obtain ⟨q32, cap32, rfl⟩ := hs.out.ownLen 4 rfl; have HS32 := Lib.hid (show St _ _ _ (_ :: _ :: _ :: _ :: _ :: _ :: _ :: _ :: []) from hs.out); clear hs)
          refine hK.out _ _ (trivial) (fun hHeld => ?_)
          clear hK K
          (try simp only [Act.put, List.setIfInBounds_toArray, List.set_cons_zero, List.set_cons_succ, List.getElem_toArray, List.getElem_cons_succ, List.getElem_cons_zero])
          refine wpAnyH_take (i := 6) (v := ?_) rfl (by kernel_rfl) (by kernel_rfl) (by kernel_rfl) (fun _ _ _ h => h) (Or.inl ⟨by rfl, ?_⟩) (by assumption) ?_
          rotate_left
          · intro w hSw
            (try dsimp only at hSw)
            go_simp
            (try with_reducible rfl)
          (try simp only [Act.put, List.setIfInBounds_toArray, List.set_cons_zero, List.set_cons_succ, List.getElem_toArray, List.getElem_cons_succ, List.getElem_cons_zero])
          refine wpAnyH_ready (rs := [7]) (by kernel_rfl) (by simp) ?_
          refine AllReadyH.cons rfl (fun K hK => ?_) AllReadyH.nil
          (refine wp_store1 HS32.out 6 rfl rfl funcsO (of_decide_eq_true rfl) rfl ?_; intro w33 hs; have HS33 := Lib.hid (show St _ _ _ (_ :: _ :: _ :: _ :: _ :: _ :: _ :: _ :: []) from hs.out); clear hs)
          refine hK.out _ _ (trivial) (fun hHeld => ?_)
          clear hK K
          (try simp only [Act.put, List.setIfInBounds_toArray, List.set_cons_zero, List.set_cons_succ, List.getElem_toArray, List.getElem_cons_succ, List.getElem_cons_zero])
          refine wpAnyH_done (by kernel_rfl) ?_ _
          try go_wp2
          refine ⟨⟨k + 1, q32, cap32, fs ++ [⟨p, nm, ps, hh, ⟨te, tl, tb⟩, bs⟩], xs ++ (fnA p nm (.slice q1 l1 c1) hh te tl tb (.slice q2 l2 c2)).toList, (Sx.function L τ).2, ?_, Lib.hid ⟨?_, HS33.out.pushF, ?_, ?_, ?_, ?_⟩⟩, ?_⟩
          · have := HKB.out; have := HNN.out; omega
          · rw [List.length_append, HK.out.1]; rfl
          · rw [Sx.op_function]; exact HK.out.2.2.1
          · intro hz
            have h1 := Sx.function_at HL.out.ends HAT.out HHe.out hz
            have h3 := HK.out.2.2.2.1 HHe.out
            omega
          · rw [HK.out.2.2.2.2.1, HN.out]
          · intro hz
            have h9 : (Sx.function L τ).2.err = 0 := Sx.Le.ok (Sx.le_functions HL.out.ends _ _) hz
            rw [HK.out.2.2.2.2.2 (by rw [HN.out]; exact hz), HN.out, List.append_assoc, ← HX.out h9]; rfl
          · rw [HS33.out.fLen 6 rfl, HST.out.fLen 3 rfl]
            have := HKB.out
            have := HNN.out
            omega
end Go.Proofs.YtbnhegipdfkdgaaDoor
