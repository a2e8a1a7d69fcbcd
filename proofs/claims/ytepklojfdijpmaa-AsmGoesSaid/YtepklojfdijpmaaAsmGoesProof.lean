/-
  Law AsmGoes: for all runs of items and every base, what is assembled and decoded again is the items' instructions in order, and each branch goes to a place of its label.
  Conditions: none but those of the given row.
-/
import Derived.Test.YtepklojfdijpmaaRows
import Derived.Test.YtepklojfdijpmaaAsmO
import Derived.Test.YtepklojfdijpmaaAsmH
import Derived.WalkKit
import Derived.ProofKit
import Derived.OpenShut
import Derived.ShutString
import Derived.ChangeOld
import Derived.Below
import Derived.LoopN
import Derived.SizedLaws
namespace Go.Proofs.Ytepklojfdijpmaa.asmGoes
open Go.ChangeShapes Go.WideShapes Go.ChangeAt Go.RowKit
open Go.ChangeMaps (open_string shut_string)
set_option linter.unusedVariables false

theorem own : ownKnob Try.prog.godebug = none := by kernel_rfl
theorem laidOut : laidOutB Try.prog = true := by kernel_rfl

open Go.Proofs.Ytepklojfdijpmaa
theorem items_len (L : List As.Run) : (As.items L).length ≤ 21000 := by have := upto_len L 30; exact this
theorem items_wf {L : List As.Run} (h : ∀ r ∈ L, (Lit.int .i64 r.item.label).wf = true) : As.wf (As.items L) := by
  intro k hk
  have hm : (As.items L)[k] ∈ As.items L := List.getElem_mem hk
  generalize (As.items L)[k] = x at hm
  unfold As.items As.upto at hm
  rw [List.mem_flatMap] at hm
  obtain ⟨r, hr, hx⟩ := hm
  unfold As.one at hx
  rw [(List.mem_replicate.1 hx).2]
  exact h r (List.mem_of_mem_take hr)
theorem own_slice' {W : World} {base : Nat} {e : TypeId} {size : Nat} {v : Value} {n : Nat} {xs : List Value} (h : W.ownsRow base e size v n xs) : ∃ q c, v = .slice q n c := by
  obtain ⟨q, c, h1, _⟩ := own_q h
  exact ⟨q, c, h1⟩
set_option maxHeartbeats 8000000 in
set_option maxRecDepth 100000 in
theorem goes_err (p : Option Addr) (c m n : Nat) (base E : Int) (I : List As.It) (w : World) (hE : ¬ E = 0)
    (C1 : Hid (Calls Try.prog 6 #[.slice p m c] w fun e w' => ∃ q cc, e = .returned (.slice q n cc) ∧ SliceC itC 10 w' (.slice q n cc) I ∧ Below w.heap.size w w'))
    (C2 : Hid (∀ (w : World) (q : Option Addr) (cc : Nat), SliceC itC 10 w (.slice q n cc) I → Calls Try.prog 7 #[.slice q n cc, .int .i64 base] w fun e w' => e = .returned (.tuple #[.string ⟨#[]⟩, .slice none 0 0, .int .i64 E]) ∧ Below w.heap.size w w')) :
    Calls Try.prog 4 #[.slice p m c, .int .i64 base] w fun e w' => e = .returned (.bool true) ∧ Below w.heap.size w w' := by
  go_enter Try.func4, Try.ntmps4
  go_wp2_with (first
    | (go_at_call 6; refine C1.out.mono ?_; rintro e w1 ⟨q1, c1, rfl, hs1, hb1⟩; have HS1 := Lib.hid hs1; have HB1 := Lib.hid hb1; clear hs1 hb1)
    | (go_at_call 7; refine (C2.out _ _ _ HS1.out).mono ?_; rintro e w2 ⟨rfl, hb2⟩; have HB2 := Lib.hid (below_on HB1.out hb2 HB1.out.size); clear hb2)
    | (go_at_call 10; refine (lives4_any _).mono ?_; rintro r w5 ⟨rfl, hb5⟩; have HB5 := Lib.hid (below_on HB2.out hb5 HB2.out.size); clear hb5))
  go_ret
  exact ⟨rfl, HB5.out⟩
/-- what one item tells -/
def GStep (A : Nat → Int) (N : Nat → Nat) (CI : List Th.Ins) (P : List As.Pl) (i : Nat) (x : As.It) : Prop :=
  (x.kind = 1 ∧ A (i + 1) = A i ∧ N (i + 1) = N i) ∨ ((x.kind = 0 ∨ x.kind = 2) ∧ ∃ z : Th.Ins, CI[N i]? = some z ∧ N (i + 1) = N i + 1 ∧ A (i + 1) = A i + Th.size z ∧ (x.kind = 0 → z = x.ins) ∧ (x.kind = 2 → z.op = x.ins.op ∧ z.cond = x.ins.cond ∧ -100000000 ≤ z.imm ∧ z.imm ≤ 100000000 ∧ P.any (fun q => q.label == x.label && q.addr == A i + 4 + z.imm) = true))
theorem any_take' {α : Type} (f : α → Bool) (L : List α) (k : Nat) (hk : k < L.length) : (L.take (k + 1)).any f = ((L.take k).any f || f L[k]) := any_take f L k hk
set_option maxHeartbeats 16000000 in
set_option maxRecDepth 100000 in
theorem goes_ok (p : Option Addr) (c m n nc np : Nat) (base : Int) (I : List As.It) (A : Nat → Int) (N : Nat → Nat) (CI : List Th.Ins) (P : List As.Pl) (s : ByteArray) (w : World)
    (hn : Hid (I.length = n)) (hb : n ≤ 100000) (hnc : Hid (CI.length = nc)) (hcb : nc ≤ 100000) (hnp : Hid (P.length = np)) (hpb : np ≤ 100000) (hA0 : Hid (A 0 = base)) (hN0 : Hid (N 0 = 0)) (hNn : Hid (N n = nc)) (hAb : Hid (∀ i, i ≤ n → 0 ≤ A i ∧ A i ≤ 1000000)) (hS : Hid (∀ i (hi : i < I.length), GStep A N CI P i I[i]))
    (C1 : Hid (Calls Try.prog 6 #[.slice p m c] w fun e w' => ∃ q cc, e = .returned (.slice q n cc) ∧ SliceC itC 10 w' (.slice q n cc) I ∧ Below w.heap.size w w'))
    (C2 : Hid (∀ (w : World) (q : Option Addr) (cc : Nat), SliceC itC 10 w (.slice q n cc) I → Calls Try.prog 7 #[.slice q n cc, .int .i64 base] w fun e w' => ∃ r rc, e = .returned (.tuple #[.string s, .slice r np rc, .int .i64 0]) ∧ SliceC plC 2 w' (.slice r np rc) P ∧ Below w.heap.size w w'))
    (C3 : Hid (∀ w : World, Calls Try.prog 11 #[.string s] w fun e w' => ∃ r rc, e = .returned (.tuple #[.slice r nc rc, .int .i64 0]) ∧ SliceC insC 8 w' (.slice r nc rc) CI ∧ Below w.heap.size w w')) :
    Calls Try.prog 4 #[.slice p m c, .int .i64 base] w fun e w' => e = .returned (.bool true) ∧ Below w.heap.size w w' := by
  go_enter Try.func4, Try.ntmps4
  go_wp2_with (first
    | (go_at_call 6; refine C1.out.mono ?_; rintro e w1 ⟨q1, c1, rfl, hs1, hb1⟩; have HS1 := Lib.hid hs1; have HB1 := Lib.hid hb1; clear hs1 hb1)
    | (go_at_call 7; refine (C2.out _ _ _ HS1.out).mono ?_; rintro e w2 ⟨q2, c2, rfl, hs2, hb2⟩; have HS2 := Lib.hid hs2; have HI2 := Lib.hid (HS1.out.kept hb2); have HB2 := Lib.hid (below_on HB1.out hb2 HB1.out.size); clear hb2 hs2)
    | (go_at_call 11; refine (C3.out _).mono ?_; rintro e w3 ⟨q3, c3, rfl, hs3, hb3⟩; have HS3 := Lib.hid hs3; have HI3 := Lib.hid (HI2.out.kept hb3); have HP3 := Lib.hid (HS2.out.kept hb3); have HB3 := Lib.hid (below_on HB2.out hb3 HB2.out.size); clear hb3 hs3))
  go_loopw [9, 12, 13] (fun V9 V12 V13 W => ∃ i : Nat, V13 = .int .i64 (i : Int) ∧ V9 = .int .i64 (A i) ∧ V12 = .int .i64 ((N i : Nat) : Int) ∧ i ≤ n ∧ Below w3.heap.size w3 W) (fun _ _ V13 _ => n - (intOf V13).toNat)
  case atStart => exact ⟨0, rfl, by rw [hA0.out], by rw [hN0.out]; rfl, Nat.zero_le _, Below.refl _ _⟩
  case round =>
    clear HS1 HB1 HS2 HI2 HB2
    obtain ⟨i, rfl, rfl, rfl, hin, hB⟩ := hrel
    by_cases hlt : i < n
    · have hiL : i < I.length := by rw [hn.out]; exact hlt
      have hlt' : (i : Int) < (n : Int) := by omega
      have i0 : (0 : Int) ≤ (i : Int) := by omega
      have hab := hAb.out i hin
      have hst := hS.out i hiL
      obtain ⟨p', c', e', hat⟩ := HI3.out.kept hB
      obtain ⟨a, hpa, hOn⟩ := hat i hiL
      injection e' with ep en ec
      rw [hpa] at ep
      subst ep
      rcases hx : I[i] with ⟨kind, label, ⟨op, rd, rn, rm, ra, imm, cond, wide⟩⟩
      rw [hx] at hOn hst
      obtain ⟨x0, x1, x2, x3, x4, x5, x6, x7, x8, x9⟩ := ItAt.of hOn
      have HItw := Lib.hid hOn
      clear hat hpa ec en hx hOn
      obtain ⟨Ai, hAi⟩ : ∃ Ai, A i = Ai := ⟨_, rfl⟩
      obtain ⟨Ni, hNi⟩ : ∃ Ni, N i = Ni := ⟨_, rfl⟩
      rw [hAi] at hab
      unfold GStep at hst
      rw [hAi, hNi] at hst
      dsimp only at hst
      rw [hAi, hNi]
      clear hAi hNi
      have HB := Lib.hid hB
      rcases hst with ⟨hk, hA1, hN1⟩ | ⟨hk, z, hz, hN1, hA1, hz0, hz2⟩
      · subst hk
        have H1 := Lib.hid hA1
        have H2 := Lib.hid hN1
        clear hA1 hN1 hB
        go_wp2
        exact ⟨⟨i + 1, by simp, by rw [H1.out], by rw [H2.out], by omega, HB.out⟩, by simp [intOf]; omega⟩
      · rcases z with ⟨zop, zrd, zrn, zrm, zra, zi, zc, zw⟩
        have hNl : Ni < CI.length := (List.getElem?_eq_some_iff.1 hz).1
        have hNc : Ni < nc := by rw [← hnc.out]; exact hNl
        have hN1' : (Ni : Int) < (nc : Int) := by omega
        have hN2 : (0 : Int) ≤ (Ni : Int) := by omega
        obtain ⟨p5, c5, e5, hat5⟩ := HS3.out.kept hB
        obtain ⟨ac, hp5, hOn5⟩ := hat5 Ni hNl
        injection e5 with ep5 en5 ec5
        rw [hp5] at ep5
        subst ep5
        have hzz : CI[Ni] = ⟨zop, zrd, zrn, zrm, zra, zi, zc, zw⟩ := by rw [List.getElem?_eq_getElem hNl] at hz; exact Option.some.inj hz
        rw [hzz] at hOn5
        have y0 : wr.cell? (ac.add (Ni * 8)) = some (.int .i64 zop) := by have h := hOn5 0 _ rfl; rw [add_zero'] at h; exact h
        have y1 : wr.cell? ⟨(ac.add (Ni * 8)).block, (ac.add (Ni * 8)).off + 1, none⟩ = some (.int .i64 zrd) := hOn5 1 _ rfl
        have y2 : wr.cell? ⟨(ac.add (Ni * 8)).block, (ac.add (Ni * 8)).off + 2, none⟩ = some (.int .i64 zrn) := hOn5 2 _ rfl
        have y3 : wr.cell? ⟨(ac.add (Ni * 8)).block, (ac.add (Ni * 8)).off + 3, none⟩ = some (.int .i64 zrm) := hOn5 3 _ rfl
        have y4 : wr.cell? ⟨(ac.add (Ni * 8)).block, (ac.add (Ni * 8)).off + 4, none⟩ = some (.int .i64 zra) := hOn5 4 _ rfl
        have y5 : wr.cell? ⟨(ac.add (Ni * 8)).block, (ac.add (Ni * 8)).off + 5, none⟩ = some (.int .i64 zi) := hOn5 5 _ rfl
        have y6 : wr.cell? ⟨(ac.add (Ni * 8)).block, (ac.add (Ni * 8)).off + 6, none⟩ = some (.int .i64 zc) := hOn5 6 _ rfl
        have y7 : wr.cell? ⟨(ac.add (Ni * 8)).block, (ac.add (Ni * 8)).off + 7, none⟩ = some (.bool zw) := hOn5 7 _ rfl
        obtain ⟨Z, hZ⟩ : ∃ Z, Th.size ⟨zop, zrd, zrn, zrm, zra, zi, zc, zw⟩ = Z := ⟨_, rfl⟩
        have hZb := Th.size_bd ⟨zop, zrd, zrn, zrm, zra, zi, zc, zw⟩
        rw [hZ] at hZb hA1
        have HZ := Lib.hid hZ
        have H1 := Lib.hid hA1
        have H2 := Lib.hid hN1
        have hPl := Lib.hid (HP3.out.kept hB)
        have hbg : Below wr.heap.size wr (wr.alloc (.cells #[.int .i64 zop, .int .i64 zrd, .int .i64 zrn, .int .i64 zrm, .int .i64 zra, .int .i64 zi, .int .i64 zc, .bool zw] 39)) := (Below.refl _ _).alloc (Nat.le_refl _) _
        have hbx := ins_alloc wr 39 zop zrd zrn zrm zra zi zc zw
        have hItg : OnC (wr.alloc (.cells #[.int .i64 zop, .int .i64 zrd, .int .i64 zrn, .int .i64 zrm, .int .i64 zra, .int .i64 zi, .int .i64 zc, .bool zw] 39)) (a.add (i * 10)) (itC ⟨kind, label, ⟨op, rd, rn, rm, ra, imm, cond, wide⟩⟩) := HItw.out.kept hbg
        have hPg := Lib.hid (hPl.out.kept hbg)
        have HBg := Lib.hid (below_on hB hbg hB.size)
        obtain ⟨w0a, w0b⟩ := hab
        obtain ⟨zb0, zb1⟩ := hZb
        have s1 : wrap64 (Ai + Z) = Ai + Z := by unfold wrap64; omega
        have s1' : IntKind.i64.wrap (Ai + Z) = Ai + Z := IntWalk.i64_in _ (by omega)
        clear hOn5 hat5 hp5 en5 ec5 hzz hz hZ hA1 hN1 hB hPl hbg
        rcases hk with rfl | rfl
        · have hze := hz0 rfl
          injection hze with k0 k1 k2 k3 k4 k5 k6 k7
          subst k0 k1 k2 k3 k4 k5 k6 k7
          clear hz0 hz2
          go_wp2
          obtain ⟨b0, b1, b2, b3, b4, b5, b6, b7⟩ := hbx
          obtain ⟨v0, v1, v2, v3, v4, v5, v6, v7, v8, v9⟩ := ItAt.of hItg
          clear hItg x0 x1 x2 x3 x4 x5 x6 x7 x8 x9 y0 y1 y2 y3 y4 y5 y6 y7
          generalize wr.alloc (.cells #[.int .i64 zop, .int .i64 zrd, .int .i64 zrn, .int .i64 zrm, .int .i64 zra, .int .i64 zi, .int .i64 zc, .bool zw] 39) = wg at *
          go_quiet (fail)
          go_wp2_with (go_at_call 12; refine (size_lit _ _ _ _ _ _ _ _ _ _ HZ).mono ?_; rintro e w4 ⟨rfl, hb4⟩; have HB4 := Lib.hid (below_on (below_drewN HBg.out _) hb4 (below_drewN HBg.out _).size); clear hb4)
          exact ⟨⟨i + 1, by simp, by rw [H1.out], by rw [H2.out]; simp, by omega, HB4.out⟩, by simp [intOf]; omega⟩
        · obtain ⟨rfl, rfl, q0, q1, hany⟩ := hz2 rfl
          clear hz0 hz2
          have HAny := Lib.hid hany
          clear hany
          have q0' : -100000000 ≤ zi := q0
          have q1' : zi ≤ 100000000 := q1
          clear q0 q1
          have s2 : wrap64 (Ai + 4) = Ai + 4 := by unfold wrap64; omega
          have s3 : wrap64 (Ai + 4 + zi) = Ai + 4 + zi := by unfold wrap64; omega
          go_wp2
          obtain ⟨b0, b1, b2, b3, b4, b5, b6, b7⟩ := hbx
          obtain ⟨v0, v1, v2, v3, v4, v5, v6, v7, v8, v9⟩ := ItAt.of hItg
          clear hItg x0 x1 x2 x3 x4 x5 x6 x7 x8 x9 y0 y1 y2 y3 y4 y5 y6 y7
          generalize wr.alloc (.cells #[.int .i64 zop, .int .i64 zrd, .int .i64 zrn, .int .i64 zrm, .int .i64 zra, .int .i64 zi, .int .i64 zc, .bool zw] 39) = wg at *
          go_quiet (fail)
          go_wp2
          obtain ⟨pr, hpr⟩ : ∃ pr : As.Pl → Bool, pr = fun q => q.label == label && q.addr == Ai + 4 + zi := ⟨_, rfl⟩
          have HAny2 : Hid (P.any pr = true) := Lib.hid (by rw [hpr]; exact HAny.out)
          have HPR := Lib.hid hpr
          clear hpr HAny
          go_loopw [15, 16] (fun F M W => ∃ k : Nat, M = .int .i64 (k : Int) ∧ F = .bool ((P.take k).any pr) ∧ k ≤ np ∧ ∃ d, W = wg.drewN d) (fun _ M _ => np - (intOf M).toNat)
          case atStart => exact ⟨0, rfl, rfl, Nat.zero_le _, nq, rfl⟩
          case round =>
            obtain ⟨k, rfl, rfl, hkp, d, rfl⟩ := hrel
            by_cases hkl : k < np
            · have hkL : k < P.length := by rw [hnp.out]; exact hkl
              have hkl' : (k : Int) < (np : Int) := by omega
              have k0' : (0 : Int) ≤ (k : Int) := by omega
              have htk := any_take' pr P k hkL
              obtain ⟨p6, c6, e6, hat6⟩ := hPg.out
              obtain ⟨ap, hp6, hOn6⟩ := hat6 k hkL
              injection e6 with ep6 en6 ec6
              rw [hp6] at ep6
              subst ep6
              rcases hx6 : P[k] with ⟨pla, pad⟩
              rw [hx6] at hOn6 htk
              have u0 : wg.cell? (ap.add (k * 2)) = some (.int .i64 pla) := by have h := hOn6 0 _ rfl; rw [add_zero'] at h; exact h
              have u1 : wg.cell? ⟨(ap.add (k * 2)).block, (ap.add (k * 2)).off + 1, none⟩ = some (.int .i64 pad) := hOn6 1 _ rfl
              have hprk : pr ⟨pla, pad⟩ = (pla == label && pad == Ai + 4 + zi) := by rw [HPR.out]
              rw [hprk] at htk
              clear hOn6 hat6 hp6 en6 ec6 hx6 hprk
              cases hfd : (P.take k).any pr with
              | true =>
                rw [hfd, Bool.true_or] at htk
                have HTK := Lib.hid htk
                clear htk hfd
                go_wp2
                go_quiet (fail)
                go_wp2
                exact ⟨⟨k + 1, by simp, by rw [HTK.out], by omega, _, rfl⟩, by simp [intOf]; omega⟩
              | false =>
                rw [hfd, Bool.false_or] at htk
                cases hl1 : (pla == label) with
                | false =>
                  rw [hl1, Bool.false_and] at htk
                  have HTK := Lib.hid htk
                  clear htk hfd
                  go_wp2
                  go_quiet (fail)
                  go_wp2
                  exact ⟨⟨k + 1, by simp, by rw [HTK.out], by omega, _, rfl⟩, by simp [intOf]; omega⟩
                | true =>
                  rw [hl1, Bool.true_and] at htk
                  obtain ⟨ab, hab2⟩ : ∃ ab, (pad == Ai + 4 + zi) = ab := ⟨_, rfl⟩
                  rw [hab2] at htk
                  have HTK := Lib.hid htk
                  clear htk hfd
                  go_wp2
                  go_quiet (fail)
                  go_wp2
                  exact ⟨⟨k + 1, by simp, by rw [HTK.out], by omega, _, rfl⟩, by simp [intOf]; omega⟩
            · obtain rfl : k = np := by omega
              have hgk : ¬ (k : Int) < (k : Int) := by omega
              have hall : (P.take k).any pr = true := by rw [List.take_of_length_le (by rw [hnp.out]; exact Nat.le_refl _)]; exact HAny2.out
              rw [hall]
              clear hall
              go_wp2
              go_quiet (fail)
              go_wp2_with (go_at_call 12; refine (size_lit _ _ _ _ _ _ _ _ _ _ HZ).mono ?_; rintro e w4 ⟨rfl, hb4⟩; have HB4 := Lib.hid (below_on (below_drewN HBg.out _) hb4 (below_drewN HBg.out _).size); clear hb4)
              exact ⟨⟨i + 1, by simp, by rw [H1.out], by rw [H2.out]; simp, by omega, HB4.out⟩, by simp [intOf]; omega⟩
    · obtain rfl : i = n := by omega
      have hge : ¬ (i : Int) < (i : Int) := by omega
      have HB := Lib.hid (below_on HB3.out hB HB3.out.size)
      rw [hNn.out]
      clear hB
      go_wp2_with (go_at_call 10; refine (lives4_any _).mono ?_; rintro r w5 ⟨rfl, hb5⟩; have HB5 := Lib.hid (below_on HB.out hb5 HB.out.size); clear hb5)
      go_ret
      exact ⟨rfl, HB5.out⟩
theorem size_b {op : Int} (ho : op = 24 ∨ op = 25) (imm cond : Int) (wd : Bool) (h : Th.check ⟨op, 0, 0, 0, 0, imm, cond, wd⟩ = 0) : Th.size ⟨op, 0, 0, 0, 0, imm, cond, wd⟩ = if wd then 4 else 2 := by
  unfold Th.size
  rw [h]
  rcases ho with rfl | rfl <;> cases wd <;> rfl
theorem plcs_mem {I : List As.It} {base : Int} {t : Nat} (ht : t < I.length) (h1 : I[t].kind = 1) : (⟨I[t].label, As.at I (As.wl I) base t⟩ : As.Pl) ∈ As.plcs I base := by
  unfold As.plcs As.pls
  rw [List.mem_flatMap]
  refine ⟨t, List.mem_range.2 ht, ?_⟩
  have hl : t < (As.atL I base).length := by unfold As.atL; rw [lat_len]; omega
  rw [List.getElem?_eq_getElem ht, List.getElem?_eq_getElem hl]
  dsimp only
  rw [if_pos (by simp [h1]), List.mem_singleton]
  have e : (As.atL I base)[t] = As.at I (As.wl I) base t := lay_get I (As.wl I) base t hl
  rw [e]
theorem gstep_of {I : List As.It} {base : Int} (hc : As.check I base = 0) (hf : As.findE I = 0) (hn : I.length ≤ 100000) (i : Nat) (hi : i < I.length) :
    GStep (As.at I (As.wl I) base) (fun i => (As.insL I (As.atL I base) (As.wl I) (As.fn I) i).length) (As.codeI I base) (As.plcs I base) i I[i] := by
  have g := good_of hc hf
  have hn1 := none_of hc
  have hAt : As.at I (As.wl I) base (i + 1) = As.at I (As.wl I) base i + As.size I[i].kind I[i].ins (As.wd (As.wl I) i) := by
    rw [As.at, List.getElem?_eq_getElem hi]
  have hIn := insL_succ I (As.atL I base) (As.wl I) (As.fn I) i hi
  by_cases h1 : I[i].kind = 1
  · left
    refine ⟨h1, ?_, ?_⟩
    · rw [hAt, h1]; unfold As.size; simp
    · show (As.insL _ _ _ _ (i + 1)).length = _
      rw [hIn, if_pos (by simp [h1]), List.append_nil]
  · right
    have hk : I[i].kind = 0 ∨ I[i].kind = 2 := by rcases kinds_of hi (hn1.2.1 i hi) with h | h | h <;> omega
    have hck := ok_of hc hf hn i hi h1
    refine ⟨hk, As.insAt (As.atL I base) (As.wl I) (As.fn I) i I[i], insL_at I _ _ _ i I.length hi (Nat.le_refl _) h1, ?_, ?_, ?_, ?_⟩
    · show (As.insL _ _ _ _ (i + 1)).length = _
      rw [hIn, if_neg (by simpa using h1), List.length_append]; rfl
    · rw [hAt]
      congr 1
      rcases hk with h | h
      · unfold As.size As.insAt
        rw [if_pos (by simp [h]), if_neg (by simp [h])]
      · unfold As.size
        rw [if_neg (by simp [h]), if_pos (by simp [h])]
        have hck2 : Th.check (As.insAt (As.atL I base) (As.wl I) (As.fn I) i I[i]) = 0 := hck
        have hin : As.insAt (As.atL I base) (As.wl I) (As.fn I) i I[i] = ⟨I[i].ins.op, 0, 0, 0, 0, As.imm (As.atL I base) i ((As.fn I I[i].label).getD 0), I[i].ins.cond, As.wd (As.wl I) i⟩ := by unfold As.insAt; rw [if_pos (by simp [h])]
        rw [hin] at hck2 ⊢
        rw [size_b (g.op i hi h) _ _ _ hck2]
    · intro h
      unfold As.insAt
      rw [if_neg (by simp [h])]
    · intro h
      obtain ⟨t, ht, hft, ht1⟩ := g.to i hi h
      have hin : As.insAt (As.atL I base) (As.wl I) (As.fn I) i I[i] = ⟨I[i].ins.op, 0, 0, 0, 0, As.at I (As.wl I) base t - As.at I (As.wl I) base i - 4, I[i].ins.cond, As.wd (As.wl I) i⟩ := by
        unfold As.insAt
        rw [if_pos (by simp [h]), hft]
        show (⟨_, 0, 0, 0, 0, As.imm _ i t, _, _⟩ : Th.Ins) = _
        unfold As.imm As.atL
        rw [lat_get I _ base t (by omega), lat_get I _ base i (by omega)]
      rw [hin]
      have b1 := As.at_bd I (As.wl I) base t
      have b2 := As.at_bd I (As.wl I) base i
      have hbs := hn1.1
      refine ⟨rfl, rfl, by show -100000000 ≤ As.at I (As.wl I) base t - As.at I (As.wl I) base i - 4; omega, by show As.at I (As.wl I) base t - As.at I (As.wl I) base i - 4 ≤ 100000000; omega, ?_⟩
      rw [List.any_eq_true]
      refine ⟨_, plcs_mem ht ht1, ?_⟩
      obtain ⟨_, _, hlb⟩ := fnd_some hft
      rw [Bool.and_eq_true, beq_iff_eq, beq_iff_eq]
      refine ⟨hlb, ?_⟩
      show As.at I (As.wl I) base t = As.at I (As.wl I) base i + 4 + (As.at I (As.wl I) base t - As.at I (As.wl I) base i - 4)
      omega
theorem goes_all (p : Option Addr) (c : Nat) (L : List As.Run) (base : Int) (w : World) (hs : SliceC runC 11 w (.slice p L.length c) L) (hf : ∀ r ∈ L, (Lit.int .i64 r.item.label).wf = true) (hm : L.length ≤ maxLen) :
    Calls Try.prog 4 #[.slice p L.length c, .int .i64 base] w fun e w' => e = .returned (.bool true) ∧ Below w.heap.size w w' := by
  have hl := items_len L
  have hwf := items_wf hf
  have C1 : Hid (Calls Try.prog 6 #[.slice p L.length c] w fun e w' => ∃ q cc, e = .returned (.slice q (As.items L).length cc) ∧ SliceC itC 10 w' (.slice q (As.items L).length cc) (As.items L) ∧ Below w.heap.size w w') := Lib.hid (by
    refine (items_any p c L.length L w (Lib.hid rfl) hm (Lib.hid hs)).mono ?_
    rintro e w' ⟨v, rfl, hrow, hb⟩
    have h1 := sliceC_own itC_len hrow
    obtain ⟨q, cc, rfl⟩ := own_slice' hrow
    exact ⟨q, cc, rfl, h1, hb⟩)
  generalize As.items L = I at *
  by_cases hc : As.check I base = 0
  · by_cases hfe : As.findE I = 0
    · by_cases ha : 262144 < As.allLen I
      · exact goes_err p c L.length I.length base 5 I w (by decide) C1 (Lib.hid fun w q cc h => asm_big q cc I.length I base _ w (Lib.hid rfl) (by omega) (Lib.hid h) (Lib.hid hwf) (Lib.hid hc) (Lib.hid hfe) (Lib.hid rfl) ha)
      · have hbs := (none_of hc).1
        have hg := codeI_good hc hfe (by omega : I.length ≤ 100000)
        have hcl : (As.codeI I base).length ≤ I.length := by
          have : ∀ k, k ≤ I.length → (As.insL I (As.atL I base) (As.wl I) (As.fn I) k).length ≤ k := by
            intro k
            induction k with
            | zero => intro _; simp [As.insL]
            | succ k ih =>
              intro hk
              rw [insL_succ I _ _ _ k (by omega), List.length_append]
              have := ih (by omega)
              split <;> simp <;> omega
          exact this _ (Nat.le_refl _)
        have hpl : (As.plcs I base).length ≤ I.length := pls_len I _ _ (Nat.le_refl _) (by unfold As.atL; rw [lat_len]; omega)
        have hsz : (⟨(As.code I base).toArray⟩ : ByteArray).size ≤ 16777216 := by
          have h1 := byt_len I (As.atL I base) (As.wl I) (As.fn I) I.length (Nat.le_refl _)
          have h2 : (⟨(As.code I base).toArray⟩ : ByteArray).size = (As.byt I (As.atL I base) (As.wl I) (As.fn I) I.length).length := by
            show (As.code I base).toArray.size = _
            rw [List.size_toArray]; rfl
          omega
        refine goes_ok p c L.length I.length (As.codeI I base).length (As.plcs I base).length base I (As.at I (As.wl I) base) (fun i => (As.insL I (As.atL I base) (As.wl I) (As.fn I) i).length) (As.codeI I base) (As.plcs I base) ⟨(As.code I base).toArray⟩ w (Lib.hid rfl) (by omega) (Lib.hid rfl) (by omega) (Lib.hid rfl) (by omega) (Lib.hid rfl) (Lib.hid rfl) (Lib.hid rfl) (Lib.hid fun i hi => ?_) (Lib.hid (gstep_of hc hfe (by omega))) C1 (Lib.hid fun w q cc h => ?_) (Lib.hid fun w => ?_)
        · have := As.at_bd I (As.wl I) base i
          omega
        · refine (asm_ok q cc I.length I base _ w (Lib.hid rfl) (by omega) (Lib.hid h) (Lib.hid hwf) (Lib.hid hc) (Lib.hid hfe) (Lib.hid rfl) ha _ (Lib.hid rfl)).mono ?_
          rintro e w' ⟨v, rfl, hsl, hb⟩
          have hsl' := hsl
          obtain ⟨r, rc, rfl, _⟩ := hsl'
          exact ⟨r, rc, rfl, hsl, hb⟩
        · refine (all_any _ hsz w).mono ?_
          rintro e w' ⟨v, rfl, hrow, hb⟩
          rw [code_enc, De.allL_enc _ hg] at hrow
          have h1 : SliceC insC 8 w' v (As.codeI I base) := by
            unfold insCs at hrow
            exact sliceC_own (f := insC) (sz := 8) (fun _ => rfl) hrow
          obtain ⟨r, rc, rfl⟩ := own_slice' hrow
          exact ⟨r, rc, by rw [code_enc, De.allE_enc _ hg], h1, hb⟩
    · exact goes_err p c L.length I.length base _ I w hfe C1 (Lib.hid fun w q cc h => asm_lost q cc I.length I base _ w (Lib.hid rfl) (by omega) (Lib.hid h) (Lib.hid hwf) (Lib.hid hc) (Lib.hid rfl) hfe)
  · exact goes_err p c L.length I.length base _ I w hc C1 (Lib.hid fun w q cc h => asm_bad q cc I.length I base _ w (Lib.hid rfl) (by omega) (Lib.hid h) (Lib.hid rfl) hc)
theorem walk (p0v : Option Addr) (c0v : Nat) (L0 : List As.Run) (a1 : Int) (w1 : (Lit.int .i64 a1).wf = true) (w : World) (s0 : SliceC runC 11 w (.slice p0v L0.length c0v) L0) (f0 : ∀ r ∈ L0, (Lit.int .i64 r.item.label).wf = true) (m0 : L0.length ≤ maxLen) :
    Calls Try.prog 4 #[.slice p0v L0.length c0v, .int .i64 a1] w fun e w' => e = .returned (.bool true) ∧ Below w.heap.size w w' := by
  exact goes_all p0v c0v L0 a1 w s0 f0 m0

set_option maxRecDepth 100000 in
theorem lifted (os : Os) (started : os.Started) (H : Type) (enc : TypeId × Value → H) :
    ReturnsInHanded {} Try.checked os 4 .any (Rows.asmGoesSpec.pre6 enc Try.prog Try.f4 Rows.asmGoesRow.domain false) (Rows.asmGoesSpec.post enc Try.prog Try.f4 false true false false) := by
  refine returnsInHanded_of_change (C := Try.checked) own started (by kernel_rfl) Try.func4
    (ChangeSpec.witness6 (enc := enc) (C := Try.checked) false ⟨#[], #[.slice none 0 0, .int .i64 0], []⟩ 8 (by kernel_rfl) (by kernel_rfl) (by kernel_rfl) (by kernel_rfl)) ?_
  intro W base args ds gs before hval0 hW hcnd _
  have hval : ∀ (j : Nat) t v, Try.f4.params[j]? = some t → args[j]? = some v → Value.okWide Try.prog W .any base t v := hval0
  have hW' := hW
  obtain ⟨p, q, hA0, hV, rfl, hfz, hnd⟩ := hW
  have hA : DataW.TrodAll enc Try.prog W 0 (fun _ => true) true Try.f4.params.toList args.toList ds p := hA0
  rw [Try.params4] at hA hval
  obtain ⟨v0, vs0, d0, ds0, p0, q0, hargs, rfl, rfl, h0, r0⟩ := trodAll_cons hA
  obtain ⟨v1, vs1, d1, ds1, p1, q1, rfl, rfl, rfl, h1, r1⟩ := trodAll_cons r0
  obtain ⟨rfl, rfl, rfl⟩ := trodAll_nil r1
  obtain rfl : args = #[v0, v1] := by cases args; simp_all
  obtain ⟨rfl, rfl⟩ := trodVars_none hV
  have k0 := h0
  have lt0 : ∀ x ∈ p0, x.block < W.heap.size := by obtain ⟨m, hm⟩ := k0; exact DataW.trod_lt m _ _ _ hm
  obtain ⟨L0, hL0, f0, m0⟩ := open_runs (hval 0 22 v0 rfl rfl) h0
  have s0 := hL0
  obtain ⟨p0v, c0v, rfl, -⟩ := hL0
  obtain ⟨a1, rfl, rfl, rfl, w1⟩ := open_int Try.underlying3 (hval 1 3 v1 rfl rfl) h1
  clear hA0 hval0
  refine (walk p0v c0v L0 a1 w1 W s0 f0 m0).mono fun e W' ⟨he, bel⟩ => ?_
  subst he
  exact ⟨_, rfl, _, _, _, [], _, [], hW', trodAll_mk1 (shut_bool Try.underlying4 _), (trodAll_cons_mk (Below.trod laidOut (by kernel_rfl) (of_decide_eq_true (by kernel_rfl)) k0 bel lt0) (trodAll_cons_mk (shut_int Try.underlying3 w1) trodAll_mk0)), rfl, bel.frame _, fun h => by cases h⟩

theorem over : Rows.asmGoesRow.holds Try.pinned (OpenSpec.ofChange Rows.asmGoesSpec) :=
  OpenClaim.holds_of_wide 4 Try.f4 rfl rfl rfl rfl rfl rfl rfl ⟨rfl, rfl, rfl, rfl, rfl⟩ rfl rfl rfl rfl rfl (by kernel_rfl) Try.func4 (by kernel_rfl)
    (of_decide_eq_true (by kernel_rfl)) (by unfold Func.isWrapper; first | (rw [if_pos (by decide +kernel)]; kernel_rfl) | (rw [if_neg (by decide +kernel)]; exact ⟨rfl, rfl⟩))
    (fun os started H enc _ => lifted os started H enc)

/-- the statement -/
theorem proved : Rows.AsmGoesSaid := over
#print axioms proved
end Go.Proofs.Ytepklojfdijpmaa.asmGoes
