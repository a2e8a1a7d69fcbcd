/-
The document's Parse as a function on parts; Same of two programs that are the same.
SyntaxParses as a function on parts.
-/
import Derived.Test.YtjfdcnggnldgdaaGreatDoorP24a
import Derived.Test.YtjfdcnggnldgdaaGreatDoorP43a
import Derived.Test.YtjfdcnggnldgdaaGreatDoorP43b
section
namespace Go.Proofs.YtjfdcnggnldgdaaGreatDoor
open Go.ChangeShapes Go.WideShapes Go.ChangeAt Go.RowKit
set_option linter.unusedVariables false
set_option linter.unusedSimpArgs false

theorem fsI_nil0 {w : World} {I : List It} {P : Nat → Prop} (h : Sep w I P) : Sep w (fsI (.slice none 0 0) [] :: I) P :=
  fsI_close rfl (Sep.emp (Sep.emp h (show (flI [] []).on w (fun _ => False) from rfl)) ⟨World.ownsRow_nil _ _ _ _, fun g hg => by cases hg⟩)
theorem inc_w (k : Nat) (h : k ≤ 281474976710656) : wrap64 ((k : Int) + 1) = ((k + 1 : Nat) : Int) := by simp only [wrap64]; omega
theorem rparse_Fn (s : ByteArray) (hs : s.size ≤ 281474976710000) : Fn 13 #[.string s] [] fun e J => ∃ (q : Option Addr) (l c : Nat) (x p : Int), e = .returned (.tuple #[.agg #[.slice q l c], .agg (bdA x p)]) ∧ PJ (Sx.parse s.data.toList) (.slice q l c) x p J := by
  intro w P hP h0
  refine (rparse_any s hs w hP.tab).mono ?_
  rintro e w' ⟨q, l, c, x, p, rfl, hr, hb⟩
  have hst : St P w w' [] := ⟨hP, ⟨hb.os, hb.tape, hb.output, hb.size, fun k hk _ => hb.block k hk⟩, trivial⟩
  cases hp : Sx.parse s.data.toList with
  | error e =>
    rw [hp] at hr
    exact ⟨[], ⟨q, l, c, x, p, rfl, hr.1, hr.2.1, hr.2.2, rfl⟩, hst⟩
  | ok fs =>
    rw [hp] at hr
    refine ⟨[fsI (.slice q l c) fs], ⟨q, l, c, x, p, rfl, hr.1, hr.2.1, rfl⟩, hst.gd, hst.rest, ?_⟩
    exact Sep.cons (A := fun k => w.heap.size ≤ k ∧ k < w'.heap.size) (B := fun _ => False) hr.2.2 trivial (fun k hk => ⟨hk.2, Or.inr hk.1⟩) (fun _ h => h.elim) (fun _ _ h => h)
theorem rparse_is (s : ByteArray) (hs : s.size ≤ 281474976710000) {fs : List Sx.F} (h : Sx.parse s.data.toList = .ok fs) : Fn 13 #[.string s] [] fun e J => ∃ (q : Option Addr) (c : Nat), e = .returned (.tuple #[.agg #[.slice q fs.length c], .agg (bdA 0 0)]) ∧ J = [fsI (.slice q fs.length c) fs] := by
  intro w P hP h0
  refine (rparse_Fn s hs w P hP h0).mono ?_
  rintro e w' ⟨J, ⟨q, l, c, x, p, rfl, hj⟩, hst⟩
  rw [h] at hj
  obtain ⟨rfl, rfl, rfl⟩ := hj
  obtain ⟨A, B, h1, h2, h3, h4, h5⟩ := hst.sep
  obtain ⟨q', c', hv⟩ := fs_len h4
  cases hv
  exact ⟨_, ⟨q, c, rfl, rfl⟩, hst⟩
theorem rparse_no (s : ByteArray) (hs : s.size ≤ 281474976710000) {er n : Int} (h : Sx.parse s.data.toList = .error (er, n)) : Fn 13 #[.string s] [] fun e J => e = .returned (.tuple #[.agg #[.slice none 0 0], .agg (bdA er n)]) ∧ J = [] := by
  intro w P hP h0
  refine (rparse_Fn s hs w P hP h0).mono ?_
  rintro e w' ⟨J, ⟨q, l, c, x, p, rfl, hj⟩, hst⟩
  rw [h] at hj
  obtain ⟨hv, rfl, rfl, rfl⟩ := hj
  cases hv
  exact ⟨_, ⟨rfl, rfl⟩, hst⟩
set_option maxHeartbeats 8000000 in
set_option maxRecDepth 100000 in
theorem rsame_true (fs : List Sx.F) (hf : ∀ x ∈ fs, smF x) (hl : fs.length ≤ 281474976710656) (q1 q2 : Option Addr) (d1 d2 : Nat) : Fn 14 #[.agg #[.slice q1 fs.length d1], .agg #[.slice q2 fs.length d2], .bool true] [fsI (.slice q1 fs.length d1) fs, fsI (.slice q2 fs.length d2) fs] fun e J => e = .returned (.bool true) ∧ J = [fsI (.slice q1 fs.length d1) fs, fsI (.slice q2 fs.length d2) fs] := by
  intro w P hP h0
  have HS := Lib.hid (St.start hP h0)
  obtain ⟨n, hn⟩ : ∃ n, fs.length = n := ⟨_, rfl⟩
  rw [hn] at HS hl ⊢
  have HF := Lib.hid (And.intro hn (And.intro hf hl))
  clear h0 hP hn hf hl
  go_enter Tryz.func14, Tryz.ntmps14
  go_wp2_with (first
    | (first | (refine wpl_box HS.out rfl rfl ?_; intro b3 w1 HS1; clear HS) | (refine wpl_box HS1.out rfl rfl ?_; intro b4 w2 HS2; have c1 : w2.cell? ⟨b3, 0, none⟩ = some (.slice q1 n d1) := HS2.out.cell 2 rfl 0; have c2 : w2.cell? ⟨b4, 0, none⟩ = some (.slice q2 n d2) := HS2.out.cell 1 rfl 0; clear HS1)))
  have HL := Lib.hid (show St P w w2 [fsI (.slice q1 n d1) fs, .row b4 24 #[.slice q2 n d2], .row b3 24 #[.slice q1 n d1], fsI (.slice q2 n d2) fs] from HS2.out)
  clear HS2 c1 c2
  go_loopw [8] (fun K wr => ∃ k : Nat, k ≤ n ∧ K = .int .i64 (k : Int) ∧ Hid (St P w wr [fsI (.slice q1 n d1) fs, .row b4 24 #[.slice q2 n d2], .row b3 24 #[.slice q1 n d1], fsI (.slice q2 n d2) fs])) (fun K _ => n - (intOf K).toNat)
  case atStart => exact ⟨0, Nat.zero_le _, rfl, HL⟩
  case round =>
    obtain ⟨k, hk, rfl, HK⟩ := hrel
    clear HL
    have c1 : wr.cell? ⟨b3, 0, none⟩ = some (.slice q1 n d1) := HK.out.cell 2 rfl 0
    have c2 : wr.cell? ⟨b4, 0, none⟩ = some (.slice q2 n d2) := HK.out.cell 1 rfl 0
    have hk1 : wrap64 ((k : Int) + 1) = ((k + 1 : Nat) : Int) := inc_w k (by have := HF.out.2.2; omega)
    have hk0 : (0 : Int) ≤ (k : Int) := Int.natCast_nonneg k
    by_cases hlt : k < n
    · have hltI : (k : Int) < (n : Int) := by omega
      obtain ⟨f, hff⟩ : ∃ f, fs[k]? = some f := ⟨_, List.getElem?_eq_getElem (by rw [HF.out.1]; exact hlt)⟩
      obtain ⟨a1, vp1, vb1, r1, oC, p1, s1⟩ := HK.out.drew.fsGet 0 rfl hff
      obtain ⟨a2, vp2, vb2, r2, oA, p2, s2⟩ := HK.out.drew.fsGet 3 rfl hff
      subst r1 r2
      have CS := Lib.hid (samef0 f (HF.out.2.1 f (List.mem_of_getElem? hff)) wr.drew HK.out.drew.tab vp1 vb1 vp2 vb2 p1 s1 p2 s2)
      have OC := Lib.hid oC
      have OA := Lib.hid oA
      clear p1 s1 p2 s2 hff oC oA
      go_wp2
      refine wp_region_held_drew (S := fun w' => w'.cell? ⟨b3, 0, none⟩ = some (.slice (some a1) n d1) ∧ w'.cell? ⟨b4, 0, none⟩ = some (.slice (some a2) n d2) ∧ OnC w' (a1.add (k * 8)) (fnA f.pos f.name vp1 f.has f.result.elem f.result.len f.result.label vb1).toList ∧ OnC w' (a2.add (k * 8)) (fnA f.pos f.name vp2 f.has f.result.elem f.result.len f.result.label vb2).toList) (by kernel_rfl) (⟨HK.out.drew.cell 2 rfl 0, HK.out.drew.cell 1 rfl 0, OC.out, OA.out⟩) (fun hHeld => ?_)
      refine tkH 0 ?_
      refine tkH 1 ?_
      refine tkH 2 ?_
      refine tkH 3 ?_
      refine tkY 4 (yieldsIf_loadC (by rfl) rfl fnT rfl (fun _ h => h.2.2.1)) ?_
      refine tkH 5 ?_
      refine tkH 6 ?_
      refine tkH 7 ?_
      refine tkH 8 ?_
      refine tkY 9 (yieldsIf_loadC (by rfl) rfl fnT rfl (fun _ h => h.2.2.2)) ?_
      refine tkH 10 ?_
      refine wpAnyH_ready (rs := [11]) (by kernel_rfl) (by simp) ?_
      refine AllReadyH.cons rfl (fun K hK => ?_) AllReadyH.nil
      go_simp
      (go_at_call 35; refine CS.out.mono ?_; rintro e w16 ⟨rfl, hb16⟩; have HS16 := Lib.hid (HK.out.drew.belowJ hb16); have HB16 := Lib.hid hb16; clear hb16)
      refine hK.out _ _ (⟨HS16.out.cell 2 rfl 0, HS16.out.cell 1 rfl 0, OC.out.kept HB16.out, OA.out.kept HB16.out⟩) (fun hHeld => ?_)
      clear hK K
      (try simp only [Act.put, List.setIfInBounds_toArray, List.set_cons_zero, List.set_cons_succ, List.getElem_toArray, List.getElem_cons_succ, List.getElem_cons_zero])
      refine tkH 12 ?_
      refine wpAnyH_done (by kernel_rfl) ?_ _
      go_wp2
      exact ⟨⟨k + 1, by omega, congrArg (Value.int .i64) hk1, HS16⟩, by rw [hk1]; simp [intOf]; omega⟩
    · have hge : ¬ (k : Int) < (n : Int) := by omega
      go_wp2
      go_ret
      exact ⟨_, ⟨rfl, rfl⟩, HK.out.sel [0, 2] rfl⟩
end Go.Proofs.YtjfdcnggnldgdaaGreatDoor
end
section
namespace Go.Proofs.YtjfdcnggnldgdaaGreatDoor
open Go.ChangeShapes Go.WideShapes Go.ChangeAt Go.RowKit
set_option linter.unusedVariables false
set_option linter.unusedSimpArgs false

set_option maxHeartbeats 8000000 in
set_option maxRecDepth 100000 in
theorem parses_ok (a0 : ByteArray) (hs : a0.size ≤ 281474976710000) (fs : List Sx.F) (hp : Sx.parse a0.data.toList = .ok fs) : Fn 3 #[.string a0] [] fun e J => e = .returned (.bool true) ∧ J = [] := by
  intro w P hP h0
  have HS := Lib.hid (St.start hP h0)
  have hb := joins_big hp
  have C1 := Lib.hid (parse_is a0 (by omega) hp)
  have C2 := Lib.hid (rparse_is a0 hs hp)
  have CS := Lib.hid (rsame_true fs hb.1 hb.2)
  obtain ⟨n, hn⟩ : ∃ n, fs.length = n := ⟨_, rfl⟩
  rw [hn] at C1 C2 CS
  clear h0 hP hp hb hn hs
  go_enter Tryz.func3, Tryz.ntmps3
  go_wp2_with (first
    | (go_at_call 12; refine (St.call (pre := []) HS.out C1.out).mono ?_; rintro e w1 ⟨J, ⟨q1, d1, rfl, rfl⟩, hs⟩; simp only [List.cons_append, List.nil_append] at hs; have HS1 := Lib.hid hs; clear hs HS)
    | (first | (refine wpl_alloc HS1.out _ rfl pgZ ?_; intro b1 w2 HS2; clear HS1) | (refine wpl_alloc HS2.out _ rfl bdZ ?_; intro b2 w3 HS3; clear HS2) | (refine wpl_alloc HS6.out _ rfl pgZ ?_; intro b3 w7 HS7; clear HS6) | (refine wpl_alloc HS7.out _ rfl rbdZ ?_; intro b4 w8 HS8; clear HS7))
    | (first | (refine wpl_storeS HS3.out 2 rfl rfl pgT rfl fitsG ?_; intro w4 hs; have HS4 := Lib.hid (show St _ _ _ (_ :: _ :: _ :: []) from hs.out); clear hs HS3) | (refine wpl_storeS HS4.out 1 rfl rfl badT rfl (fitsB _ _) ?_; intro w5 hs; have HS5 := Lib.hid (show St _ _ _ (_ :: _ :: _ :: []) from hs.out); clear hs HS4) | (refine wpl_storeS HS8.out 2 rfl rfl pgT rfl fitsG ?_; intro w9 hs; have HS9 := Lib.hid (show St _ _ _ (_ :: _ :: _ :: _ :: _ :: _ :: []) from hs.out); clear hs HS8) | (refine wpl_storeS HS9.out 1 rfl rfl rbT rfl (fitsB _ _) ?_; intro w10 hs; have HS10 := Lib.hid (show St _ _ _ (_ :: _ :: _ :: _ :: _ :: _ :: []) from hs.out); clear hs HS9))
    | (go_at_call 13; refine (St.call (pre := []) HS5.out C2.out).mono ?_; rintro e w6 ⟨J, ⟨q2, d2, rfl, rfl⟩, hs⟩; simp only [List.cons_append, List.nil_append] at hs; have HS6 := Lib.hid hs; clear hs HS5)
    | (first | (refine wpl_loadS HS10.out 5 rfl rfl pgT rfl ?_) | (refine wpl_loadS HS10.out 2 rfl rfl pgT rfl ?_))
    | (go_at_call 14; refine (St.call (pre := [_, _]) (HS10.out.sel [3, 0, 0, 0, 0, 0] rfl) (CS.out q1 q2 d1 d2)).mono ?_; rintro e w12 ⟨J, ⟨rfl, rfl⟩, hs⟩; simp only [List.cons_append, List.nil_append] at hs; have HS12 := Lib.hid hs; clear hs HS10; have f1 : w12.cell? ⟨b2, 0, none⟩ = some (.int .i64 0) := HS12.out.cell 4 rfl 0; have f2 : w12.cell? ⟨b2, 1, none⟩ = some (.int .i64 0) := HS12.out.cell 4 rfl 1; have f3 : w12.cell? ⟨b4, 0, none⟩ = some (.int .i64 0) := HS12.out.cell 2 rfl 0; have f4 : w12.cell? ⟨b4, 1, none⟩ = some (.int .i64 0) := HS12.out.cell 2 rfl 1)
    | (go_at_call 15; refine (St.call (pre := []) HS12.out lives_Fn).mono ?_; rintro e w90 ⟨J, ⟨rfl, rfl⟩, hs⟩; simp only [List.cons_append, List.nil_append] at hs; have HS90 := Lib.hid hs; clear hs))
  go_ret
  exact ⟨_, ⟨rfl, rfl⟩, HS90.out.sel [] rfl⟩
set_option maxHeartbeats 8000000 in
set_option maxRecDepth 100000 in
theorem parses_no (a0 : ByteArray) (hs : a0.size ≤ 281474976710000) (er n : Int) (hp : Sx.parse a0.data.toList = .error (er, n)) : Fn 3 #[.string a0] [] fun e J => e = .returned (.bool true) ∧ J = [] := by
  intro w P hP h0
  have HS := Lib.hid (St.start hP h0)
  have C1 := Lib.hid (parse_no a0 (by omega) hp)
  have C2 := Lib.hid (rparse_no a0 hs hp)
  have CS : Hid (Fn 14 #[.agg #[.slice none 0 0], .agg #[.slice none 0 0], .bool true] [fsI (.slice none 0 0) [], fsI (.slice none 0 0) []] fun e J => e = .returned (.bool true) ∧ J = [fsI (.slice none 0 0) [], fsI (.slice none 0 0) []]) := Lib.hid (rsame_true [] (fun _ h => absurd h List.not_mem_nil) (Nat.zero_le _) none none 0 0)
  clear h0 hP hp hs
  go_enter Tryz.func3, Tryz.ntmps3
  go_wp2_with (first
    | (go_at_call 12; refine (St.call (pre := []) HS.out C1.out).mono ?_; rintro e w1 ⟨J, ⟨rfl, rfl⟩, hs⟩; simp only [List.cons_append, List.nil_append] at hs; have HS1 := Lib.hid hs; clear hs HS)
    | (first | (refine wpl_alloc0 HS1.out _ rfl pgZ ?_; intro b1 w2 HS2; clear HS1) | (refine wpl_alloc HS2.out _ rfl bdZ ?_; intro b2 w3 HS3; clear HS2) | (refine wpl_alloc HS6.out _ rfl pgZ ?_; intro b3 w7 HS7; clear HS6) | (refine wpl_alloc HS7.out _ rfl rbdZ ?_; intro b4 w8 HS8; clear HS7))
    | (first | (refine wpl_storeS HS3.out 0 rfl rfl pgT rfl fitsG ?_; intro w4 hs; have HS4 := Lib.hid (show St _ _ _ (_ :: _ :: []) from hs.out); clear hs HS3) | (refine wpl_storeS HS4.out 1 rfl rfl badT rfl (fitsB _ _) ?_; intro w5 hs; have HS5 := Lib.hid (show St _ _ _ (_ :: _ :: []) from hs.out); clear hs HS4) | (refine wpl_storeS HS8.out 2 rfl rfl pgT rfl fitsG ?_; intro w9 hs; have HS9 := Lib.hid (show St _ _ _ (_ :: _ :: _ :: _ :: []) from hs.out); clear hs HS8) | (refine wpl_storeS HS9.out 1 rfl rfl rbT rfl (fitsB _ _) ?_; intro w10 hs; have HS10 := Lib.hid (show St _ _ _ (_ :: _ :: _ :: _ :: []) from hs.out); clear hs HS9))
    | (go_at_call 13; refine (St.call (pre := []) HS5.out C2.out).mono ?_; rintro e w6 ⟨J, ⟨rfl, rfl⟩, hs⟩; simp only [List.cons_append, List.nil_append] at hs; have HS6 := Lib.hid hs; clear hs HS5)
    | (first | (refine wpl_loadS HS10.out 0 rfl rfl pgT rfl ?_) | (refine wpl_loadS HS10.out 2 rfl rfl pgT rfl ?_))
    | (go_at_call 14; refine (St.call (pre := [_, _]) (show St P w _ (fsI (.slice none 0 0) [] :: fsI (.slice none 0 0) [] :: _) from HS10.out.to fun P h => fsI_nil0 (fsI_nil0 h)) CS.out).mono ?_; rintro e w12 ⟨J, ⟨rfl, rfl⟩, hs⟩; simp only [List.cons_append, List.nil_append] at hs; have HS12 := Lib.hid hs; clear hs HS10; have f1 : w12.cell? ⟨b2, 0, none⟩ = some (.int .i64 er) := HS12.out.cell 5 rfl 0; have f2 : w12.cell? ⟨b2, 1, none⟩ = some (.int .i64 n) := HS12.out.cell 5 rfl 1; have f3 : w12.cell? ⟨b4, 0, none⟩ = some (.int .i64 er) := HS12.out.cell 3 rfl 0; have f4 : w12.cell? ⟨b4, 1, none⟩ = some (.int .i64 n) := HS12.out.cell 3 rfl 1)
    | (go_at_call 15; refine (St.call (pre := []) HS12.out lives_Fn).mono ?_; rintro e w90 ⟨J, ⟨rfl, rfl⟩, hs⟩; simp only [List.cons_append, List.nil_append] at hs; have HS90 := Lib.hid hs; clear hs))
  go_ret
  exact ⟨_, ⟨rfl, rfl⟩, HS90.out.sel [] rfl⟩
theorem parses_Fn (a0 : ByteArray) (hs : a0.size ≤ 281474976710000) : Fn 3 #[.string a0] [] fun e J => e = .returned (.bool true) ∧ J = [] := by
  cases hp : Sx.parse a0.data.toList with
  | ok fs => exact parses_ok a0 hs fs hp
  | error e => exact parses_no a0 hs e.1 e.2 hp
end Go.Proofs.YtjfdcnggnldgdaaGreatDoor
end
