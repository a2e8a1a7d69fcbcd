/-
  Law AsmLeast: for all runs of items, every base and any way of making branches wide in which all narrow ones reach, no branch of what is assembled is wide that is narrow there.
  Conditions: none but those of the given row.
-/
import Derived.Test.YtepklojfdijpmaaRows
import Derived.Test.YtepklojfdijpmaaAsmO
import Derived.Test.YtepklojfdijpmaaAsmH
import Derived.WalkKit
import Derived.ProofKit
import Derived.OpenShut
import Derived.ShutString
import Derived.ChangeOld
import Derived.Below
import Derived.LoopN
import Derived.SizedLaws
namespace Go.Proofs.Ytepklojfdijpmaa.asmLeast
open Go.ChangeShapes Go.WideShapes Go.ChangeAt Go.RowKit
open Go.ChangeMaps (open_string shut_string)
set_option linter.unusedVariables false

theorem own : ownKnob Try.prog.godebug = none := by kernel_rfl
theorem laidOut : laidOutB Try.prog = true := by kernel_rfl

open Go.Proofs.Ytepklojfdijpmaa Go.Deep
theorem items_len (L : List As.Run) : (As.items L).length ≤ 21000 := by have := upto_len L 30; exact this
theorem items_wf {L : List As.Run} (h : ∀ r ∈ L, (Lit.int .i64 r.item.label).wf = true) : As.wf (As.items L) := by
  intro k hk
  have hm : (As.items L)[k] ∈ As.items L := List.getElem_mem hk
  generalize (As.items L)[k] = x at hm
  unfold As.items As.upto at hm
  rw [List.mem_flatMap] at hm
  obtain ⟨r, hr, hx⟩ := hm
  unfold As.one at hx
  rw [(List.mem_replicate.1 hx).2]
  exact h r (List.mem_of_mem_take hr)
theorem own_slice' {W : World} {base : Nat} {e : TypeId} {size : Nat} {v : Value} {n : Nat} {xs : List Value} (h : W.ownsRow base e size v n xs) : ∃ q c, v = .slice q n c := by
  obtain ⟨q, c, h1, _⟩ := own_q h
  exact ⟨q, c, h1⟩
set_option maxRecDepth 100000 in
theorem open_bools {H : Type} {enc : TypeId × Value → H} {w : World} {base : Nat} {spare : Nat → Bool} {held : Bool} {r : Reach} {b0 : Nat} {v : Value} {d : DataW H} {p : List MemPlace}
    (hv : Value.okWide Try.prog w r b0 45 v) (h : DataW.Trod enc Try.prog w base spare held 45 v d p) :
    ∃ L : List Bool, SliceC boolC 1 w v L := by
  have hC : Try.prog.cellsOf 4 = 1 := by kernel_rfl
  obtain ⟨a, len, cap, rfl⟩ := okWide_slice Try.underlying45 hv
  obtain ⟨fuel, hf⟩ := h
  have hf' : DataW.trod enc Try.prog w base spare held fuel 45 [.slice a len cap] = some (d, p) := by simpa [Value.cells] using hf
  rcases open_slice Try.underlying45 hf' with ⟨h1, h2⟩ | ⟨a', len', cap', m, n, D, Pl, hcs, hb, hl, hm, hmm, hx, hi⟩
  · simp at h1
    obtain ⟨rfl, rfl, rfl⟩ := h1
    exact ⟨[], none, 0, rfl, fun k hk => absurd hk (Nat.not_lt_zero _)⟩
  · simp at hcs
    obtain ⟨rfl, rfl, rfl⟩ := hcs
    have hle : len ≤ m := by rw [hmm]; split <;> omega
    rw [hC] at hi
    have hex : ∀ i, ∃ x : Bool, i < len → OnC w (a'.add (i * 1)) (boolC x) := fun i => by
      by_cases hil : i < len
      · obtain ⟨cs', hc, ht⟩ := hi i (by omega)
        obtain ⟨_, hcl, hat⟩ := World.cells?_some hc
        match cs', hcl with
        | [c0], _ =>
          obtain ⟨b, e, _⟩ := DataW.trod_bool Try.underlying4 ht
          simp at e
          refine ⟨b, fun _ j u hj => ?_⟩
          have hj1 : j < 1 := by
            have := (List.getElem?_eq_some_iff.1 hj).1
            simpa [boolC] using this
          rw [hat j hj1, e]
          exact hj
      · exact ⟨false, fun h => absurd h hil⟩
    refine ⟨(List.range len).map fun i => Classical.choose (hex i), some a', cap, by simp, fun k hk => ⟨a', rfl, ?_⟩⟩
    have hk' : k < len := by simpa using hk
    rw [List.getElem_map, List.getElem_range]
    exact Classical.choose_spec (hex k) hk'
set_option maxHeartbeats 8000000 in
set_option maxRecDepth 100000 in
theorem least_err (p pw : Option Addr) (c cw m n nw : Nat) (base E : Int) (I : List As.It) (w : World) (hE : ¬ E = 0)
    (C1 : Hid (Calls Try.prog 6 #[.slice p m c] w fun e w' => ∃ q cc, e = .returned (.slice q n cc) ∧ SliceC itC 10 w' (.slice q n cc) I ∧ Below w.heap.size w w'))
    (C2 : Hid (∀ (w : World) (q : Option Addr) (cc : Nat), SliceC itC 10 w (.slice q n cc) I → Calls Try.prog 7 #[.slice q n cc, .int .i64 base] w fun e w' => e = .returned (.tuple #[.string ⟨#[]⟩, .slice none 0 0, .int .i64 E]) ∧ Below w.heap.size w w')) :
    Calls Try.prog 5 #[.slice p m c, .int .i64 base, .slice pw nw cw] w fun e w' => e = .returned (.bool true) ∧ Below w.heap.size w w' := by
  go_enter Try.func5, Try.ntmps5
  go_wp2_with (first
    | (go_at_call 6; refine C1.out.mono ?_; rintro e w1 ⟨q1, c1, rfl, hs1, hb1⟩; have HS1 := Lib.hid hs1; have HB1 := Lib.hid hb1; clear hs1 hb1)
    | (go_at_call 7; refine (C2.out _ _ _ HS1.out).mono ?_; rintro e w2 ⟨rfl, hb2⟩; have HB2 := Lib.hid (below_on HB1.out hb2 HB1.out.size); clear hb2)
    | (go_at_call 10; refine (lives4_any _).mono ?_; rintro r w5 ⟨rfl, hb5⟩; have HB5 := Lib.hid (below_on HB2.out hb5 HB2.out.size); clear hb5))
  go_ret
  exact ⟨rfl, HB5.out⟩
/-- a narrow branch reaches all labels of its -/
def CL (I : List As.It) (B : Nat → Int) (wl : List Bool) (i : Nat) (x : As.It) (up : Nat) : Prop :=
  x.kind = 2 → As.wd wl i = false → ∀ k (hk : k < I.length), k < up → I[k].kind = 1 → I[k].label = x.label → (Th.reachLo x.ins.op false ≤ B k - B i - 4 ∧ B k - B i - 4 ≤ Th.reachHi x.ins.op false)
def LStep (N : Nat → Nat) (CI : List Th.Ins) (wl : List Bool) (i : Nat) (x : As.It) : Prop :=
  (x.kind = 1 ∧ N (i + 1) = N i) ∨ (x.kind ≠ 1 ∧ ∃ z : Th.Ins, CI[N i]? = some z ∧ N (i + 1) = N i + 1 ∧ (x.kind = 2 → z.wide = true → As.wd wl i = true))
set_option maxHeartbeats 16000000 in
set_option maxRecDepth 100000 in
theorem least_ok (p pw : Option Addr) (c cw m n nc nw : Nat) (base : Int) (I : List As.It) (wl : List Bool) (B : Nat → Int) (N : Nat → Nat) (CI : List Th.Ins) (s : ByteArray) (w : World)
    (hn : Hid (I.length = n)) (hb : n ≤ 100000) (hnc : Hid (CI.length = nc)) (hcb : nc ≤ 100000) (hnw : Hid (wl.length = nw)) (hN0 : Hid (N 0 = 0)) (hNn : Hid (N n = nc)) (hBb : Hid (∀ i, i ≤ n → 0 ≤ B i ∧ B i ≤ 1000000))
    (hS : Hid ((∀ i (hi : i < I.length), CL I B wl i I[i] n) → ∀ i (hi : i < I.length), LStep N CI wl i I[i]))
    (hWl : Hid (SliceC boolC 1 w (.slice pw nw cw) wl))
    (C1 : Hid (Calls Try.prog 6 #[.slice p m c] w fun e w' => ∃ q cc, e = .returned (.slice q n cc) ∧ SliceC itC 10 w' (.slice q n cc) I ∧ Below w.heap.size w w'))
    (C2 : Hid (∀ (w : World) (q : Option Addr) (cc : Nat), SliceC itC 10 w (.slice q n cc) I → Calls Try.prog 7 #[.slice q n cc, .int .i64 base] w fun e w' => ∃ v, e = .returned (.tuple #[.string s, v, .int .i64 0]) ∧ Below w.heap.size w w'))
    (C4 : Hid (∀ (w : World) (q : Option Addr) (cc : Nat), SliceC itC 10 w (.slice q n cc) I → SliceC boolC 1 w (.slice pw nw cw) wl → Calls Try.prog 13 #[.slice q n cc, .int .i64 base, .slice pw nw cw] w fun e w' => ∃ a cc, e = .returned (.slice (some a) (n + 1) cc) ∧ (∀ k, k < n + 1 → w'.cell? (a.add k) = some (.int .i64 (B k))) ∧ Below w.heap.size w w'))
    (C3 : Hid (∀ w : World, Calls Try.prog 11 #[.string s] w fun e w' => ∃ r rc, e = .returned (.tuple #[.slice r nc rc, .int .i64 0]) ∧ SliceC insC 8 w' (.slice r nc rc) CI ∧ Below w.heap.size w w')) :
    Calls Try.prog 5 #[.slice p m c, .int .i64 base, .slice pw nw cw] w fun e w' => e = .returned (.bool true) ∧ Below w.heap.size w w' := by
  go_enter Try.func5, Try.ntmps5
  go_wp2_with (first
    | (go_at_call 6; refine C1.out.mono ?_; rintro e w1 ⟨q1, c1, rfl, hs1, hb1⟩; have HS1 := Lib.hid hs1; have HB1 := Lib.hid hb1; clear hs1 hb1)
    | (go_at_call 7; refine (C2.out _ _ _ HS1.out).mono ?_; rintro e w2 ⟨v2, rfl, hb2⟩; have HI2 := Lib.hid (HS1.out.kept hb2); have HB2 := Lib.hid (below_on HB1.out hb2 HB1.out.size); clear hb2)
    | (go_at_call 13; refine (C4.out _ _ _ HI2.out (hWl.out.kept HB2.out)).mono ?_; rintro e w3 ⟨at3, c3, rfl, hs3, hb3⟩; have HA3 := Lib.hid hs3; have HI3 := Lib.hid (HI2.out.kept hb3); have HB3 := Lib.hid (below_on HB2.out hb3 HB2.out.size); have HW3 := Lib.hid (hWl.out.kept HB3.out); clear hb3 hs3))
  go_loopw [12] (fun V W => ∃ i : Nat, V = .int .i64 (i : Int) ∧ i ≤ n ∧ Hid (∀ j (hj : j < I.length), j < i → CL I B wl j I[j] n) ∧ ∃ d, W = w3.drewN d) (fun V _ => n - (intOf V).toNat)
  case atStart => exact ⟨0, rfl, Nat.zero_le _, Lib.hid fun j _ h => absurd h (Nat.not_lt_zero _), 0, rfl⟩
  case round =>
    clear HS1 HB1 HI2 HB2
    obtain ⟨i, rfl, hin, HC, d, rfl⟩ := hrel
    by_cases hlt : i < n
    · have hiL : i < I.length := by rw [hn.out]; exact hlt
      have hlt' : (i : Int) < (n : Int) := by omega
      have i0 : (0 : Int) ≤ (i : Int) := by omega
      have i1 : (i : Int) < (n : Int) + 1 := by omega
      obtain ⟨p', c', e', hat⟩ := HI3.out
      obtain ⟨a, hpa, hOn⟩ := hat i hiL
      injection e' with ep en ec
      rw [hpa] at ep
      subst ep
      have hItem : Hid (∀ k (hk : k < I.length), OnC w3 (a.add (k * 10)) (itC I[k])) := Lib.hid fun k hk => by
        obtain ⟨a2, hp2, hO2⟩ := hat k hk
        rw [hpa] at hp2
        obtain rfl := Option.some.inj hp2
        exact hO2
      rcases hx : I[i] with ⟨kind, label, ⟨op, rd, rn, rm, ra, imm, cond, wide⟩⟩
      rw [hx] at hOn
      obtain ⟨x0, x1, x2, x3, x4, x5, x6, x7, x8, x9⟩ := ItAt.of hOn
      have hic := HA3.out i (by omega)
      have bi := hBb.out i (by omega)
      obtain ⟨Bi, hBi⟩ : ∃ Bi, B i = Bi := ⟨_, rfl⟩
      rw [hBi] at hic bi
      obtain ⟨bi0, bi1⟩ := bi
      have HX := Lib.hid hx
      have HBI := Lib.hid hBi
      have nextI : (kind = 2 → As.wd wl i = false → ∀ k (hk : k < I.length), k < n → I[k].kind = 1 → I[k].label = label → (Th.reachLo op false ≤ B k - Bi - 4 ∧ B k - Bi - 4 ≤ Th.reachHi op false)) → Hid (∀ j (hj : j < I.length), j < i + 1 → CL I B wl j I[j] n) := fun h => Lib.hid fun j hj hji => by
        by_cases hj2 : j < i
        · exact HC.out j hj hj2
        · obtain rfl : j = i := by omega
          rw [HX.out]
          unfold CL
          dsimp only
          rw [HBI.out]
          exact h
      clear hat hpa ec en hOn hx hBi x3 x4 x5 x6 x7 x8 x9
      cases hk2 : (kind != 2) with
      | true =>
        have HN := nextI (fun h => by rw [h] at hk2; cases hk2)
        clear nextI
        go_wp2
        exact ⟨⟨i + 1, by simp, by omega, HN, _, rfl⟩, by simp [intOf]; omega⟩
      | false =>
        by_cases hiw : i < nw
        · have hiW : i < wl.length := by rw [hnw.out]; exact hiw
          have hiw' : (i : Int) < (nw : Int) := by omega
          obtain ⟨p8, c8, e8, hat8⟩ := HW3.out
          obtain ⟨aw, hp8, hOn8⟩ := hat8 i hiW
          injection e8 with ep8 en8 ec8
          rw [hp8] at ep8
          subst ep8
          have hwv := hOn8 0 _ rfl
          rw [add_zero', Nat.mul_one] at hwv
          have hwd : As.wd wl i = wl[i] := by unfold As.wd; rw [List.getD_eq_getElem?_getD, List.getElem?_eq_getElem hiW]; rfl
          clear hOn8 hat8 hp8 en8 ec8
          cases hb1 : wl[i] with
          | true =>
            rw [hb1] at hwv hwd
            have HN := nextI (fun _ h => by rw [hwd] at h; cases h)
            clear nextI hwd hb1
            go_wp2
            exact ⟨⟨i + 1, by simp, by omega, HN, _, rfl⟩, by simp [intOf]; omega⟩
          | false =>
            rw [hb1] at hwv
            clear hwd hb1
            have HLO : ∃ lo, Th.reachLo op false = lo := ⟨_, rfl⟩
            obtain ⟨lo, hlo⟩ := HLO
            obtain ⟨hi, hhi⟩ : ∃ hi, Th.reachHi op false = hi := ⟨_, rfl⟩
            have HLo := Lib.hid hlo
            have HHi := Lib.hid hhi
            clear hlo hhi
            go_wp2_with (go_at_call 14; refine (reach_lit _ _ _ _ HLo HHi).mono ?_; rintro e w6 ⟨rfl, rfl⟩)
            go_loopw [15] (fun V W => ∃ k : Nat, V = .int .i64 (k : Int) ∧ k ≤ n ∧ Hid (∀ j (hj : j < I.length), j < k → I[j].kind = 1 → I[j].label = label → (lo ≤ B j - Bi - 4 ∧ B j - Bi - 4 ≤ hi)) ∧ ∃ d, W = w3.drewN d) (fun V _ => n - (intOf V).toNat)
            case atStart => exact ⟨0, rfl, Nat.zero_le _, Lib.hid fun j _ h => absurd h (Nat.not_lt_zero _), d, rfl⟩
            case round =>
              obtain ⟨k, rfl, hkn, HK, d2, rfl⟩ := hrel
              by_cases hkl : k < n
              · have hkL : k < I.length := by rw [hn.out]; exact hkl
                have hkl' : (k : Int) < (n : Int) := by omega
                have k0' : (0 : Int) ≤ (k : Int) := by omega
                have k1' : (k : Int) < (n : Int) + 1 := by omega
                have hOnk := hItem.out k hkL
                rcases hxk : I[k] with ⟨kk, lk, ⟨o0, o1, o2, o3, o4, o5, o6, o7⟩⟩
                rw [hxk] at hOnk
                obtain ⟨e0, e1, e2, e3, e4, e5, e6, e7, e8, e9⟩ := ItAt.of hOnk
                have hkc := HA3.out k (by omega)
                have bk := hBb.out k (by omega)
                obtain ⟨Bk, hBk⟩ : ∃ Bk, B k = Bk := ⟨_, rfl⟩
                rw [hBk] at hkc bk
                obtain ⟨bk0, bk1⟩ := bk
                have HXK := Lib.hid hxk
                have HBK := Lib.hid hBk
                clear hOnk hxk hBk e2 e3 e4 e5 e6 e7 e8 e9
                have next : (kk = 1 → lk = label → (lo ≤ Bk - Bi - 4 ∧ Bk - Bi - 4 ≤ hi)) → Hid (∀ j (hj : j < I.length), j < k + 1 → I[j].kind = 1 → I[j].label = label → (lo ≤ B j - Bi - 4 ∧ B j - Bi - 4 ≤ hi)) := fun h => Lib.hid fun j hj hjk h1 h2 => by
                  by_cases hjk2 : j < k
                  · exact HK.out j hj hjk2 h1 h2
                  · obtain rfl : j = k := by omega
                    rw [HXK.out] at h1 h2
                    rw [HBK.out]
                    exact h h1 h2
                cases hq1 : (kk == 1) with
                | false =>
                  have HN := next (fun h => by rw [h] at hq1; cases hq1)
                  clear next
                  go_wp2
                  go_quiet (fail)
                  go_wp2
                  exact ⟨⟨k + 1, by simp, by omega, HN, _, rfl⟩, by simp [intOf]; omega⟩
                | true =>
                  cases hq2 : (lk == label) with
                  | false =>
                    have HN := next (fun _ h => by rw [h] at hq2; simp at hq2)
                    clear next
                    go_wp2
                    go_quiet (fail)
                    go_wp2
                    exact ⟨⟨k + 1, by simp, by omega, HN, _, rfl⟩, by simp [intOf]; omega⟩
                  | true =>
                    have r1 : wrap64 (Bk - Bi) = Bk - Bi := by unfold wrap64; omega
                    have r2 : wrap64 (Bk - Bi - 4) = Bk - Bi - 4 := by unfold wrap64; omega
                    by_cases h1 : Bk - Bi - 4 < lo
                    · clear next
                      go_wp2
                      go_quiet (fail)
                      go_wp2
                      go_quiet (fail)
                      go_wp2_with (go_at_call 10; refine (lives4_any _).mono ?_; rintro r w7 ⟨rfl, hb7⟩; have HB7 := Lib.hid (below_on (below_drewN HB3.out _) hb7 (below_drewN HB3.out _).size); clear hb7)
                      go_ret
                      exact ⟨rfl, HB7.out⟩
                    · by_cases h2 : hi < Bk - Bi - 4
                      · clear next
                        go_wp2
                        go_quiet (fail)
                        go_wp2
                        go_quiet (fail)
                        go_wp2_with (go_at_call 10; refine (lives4_any _).mono ?_; rintro r w7 ⟨rfl, hb7⟩; have HB7 := Lib.hid (below_on (below_drewN HB3.out _) hb7 (below_drewN HB3.out _).size); clear hb7)
                        go_ret
                        exact ⟨rfl, HB7.out⟩
                      · have HN := next (fun _ _ => ⟨by omega, by omega⟩)
                        clear next
                        go_wp2
                        go_quiet (fail)
                        go_wp2
                        go_quiet (fail)
                        go_wp2
                        exact ⟨⟨k + 1, by simp, by omega, HN, _, rfl⟩, by simp [intOf]; omega⟩
              · obtain rfl : k = n := by omega
                have hgk : ¬ (k : Int) < (k : Int) := by omega
                have HN := nextI (fun _ _ j hj hjn h1 h2 => by
                  have := HK.out j hj hjn h1 h2
                  rw [HLo.out, HHi.out]
                  exact this)
                clear nextI
                go_wp2
                exact ⟨⟨i + 1, by simp, by omega, HN, _, rfl⟩, by simp [intOf]; omega⟩
        · have hiw' : ¬ (i : Int) < (nw : Int) := by omega
          have HLO : ∃ lo, Th.reachLo op false = lo := ⟨_, rfl⟩
          obtain ⟨lo, hlo⟩ := HLO
          obtain ⟨hi, hhi⟩ : ∃ hi, Th.reachHi op false = hi := ⟨_, rfl⟩
          have HLo := Lib.hid hlo
          have HHi := Lib.hid hhi
          clear hlo hhi
          go_wp2_with (go_at_call 14; refine (reach_lit _ _ _ _ HLo HHi).mono ?_; rintro e w6 ⟨rfl, rfl⟩)
          go_loopw [15] (fun V W => ∃ k : Nat, V = .int .i64 (k : Int) ∧ k ≤ n ∧ Hid (∀ j (hj : j < I.length), j < k → I[j].kind = 1 → I[j].label = label → (lo ≤ B j - Bi - 4 ∧ B j - Bi - 4 ≤ hi)) ∧ ∃ d, W = w3.drewN d) (fun V _ => n - (intOf V).toNat)
          case atStart => exact ⟨0, rfl, Nat.zero_le _, Lib.hid fun j _ h => absurd h (Nat.not_lt_zero _), d, rfl⟩
          case round =>
            obtain ⟨k, rfl, hkn, HK, d2, rfl⟩ := hrel
            by_cases hkl : k < n
            · have hkL : k < I.length := by rw [hn.out]; exact hkl
              have hkl' : (k : Int) < (n : Int) := by omega
              have k0' : (0 : Int) ≤ (k : Int) := by omega
              have k1' : (k : Int) < (n : Int) + 1 := by omega
              have hOnk := hItem.out k hkL
              rcases hxk : I[k] with ⟨kk, lk, ⟨o0, o1, o2, o3, o4, o5, o6, o7⟩⟩
              rw [hxk] at hOnk
              obtain ⟨e0, e1, e2, e3, e4, e5, e6, e7, e8, e9⟩ := ItAt.of hOnk
              have hkc := HA3.out k (by omega)
              have bk := hBb.out k (by omega)
              obtain ⟨Bk, hBk⟩ : ∃ Bk, B k = Bk := ⟨_, rfl⟩
              rw [hBk] at hkc bk
              obtain ⟨bk0, bk1⟩ := bk
              have HXK := Lib.hid hxk
              have HBK := Lib.hid hBk
              clear hOnk hxk hBk e2 e3 e4 e5 e6 e7 e8 e9
              have next : (kk = 1 → lk = label → (lo ≤ Bk - Bi - 4 ∧ Bk - Bi - 4 ≤ hi)) → Hid (∀ j (hj : j < I.length), j < k + 1 → I[j].kind = 1 → I[j].label = label → (lo ≤ B j - Bi - 4 ∧ B j - Bi - 4 ≤ hi)) := fun h => Lib.hid fun j hj hjk h1 h2 => by
                by_cases hjk2 : j < k
                · exact HK.out j hj hjk2 h1 h2
                · obtain rfl : j = k := by omega
                  rw [HXK.out] at h1 h2
                  rw [HBK.out]
                  exact h h1 h2
              cases hq1 : (kk == 1) with
              | false =>
                have HN := next (fun h => by rw [h] at hq1; cases hq1)
                clear next
                go_wp2
                go_quiet (fail)
                go_wp2
                exact ⟨⟨k + 1, by simp, by omega, HN, _, rfl⟩, by simp [intOf]; omega⟩
              | true =>
                cases hq2 : (lk == label) with
                | false =>
                  have HN := next (fun _ h => by rw [h] at hq2; simp at hq2)
                  clear next
                  go_wp2
                  go_quiet (fail)
                  go_wp2
                  exact ⟨⟨k + 1, by simp, by omega, HN, _, rfl⟩, by simp [intOf]; omega⟩
                | true =>
                  have r1 : wrap64 (Bk - Bi) = Bk - Bi := by unfold wrap64; omega
                  have r2 : wrap64 (Bk - Bi - 4) = Bk - Bi - 4 := by unfold wrap64; omega
                  by_cases h1 : Bk - Bi - 4 < lo
                  · clear next
                    go_wp2
                    go_quiet (fail)
                    go_wp2
                    go_quiet (fail)
                    go_wp2_with (go_at_call 10; refine (lives4_any _).mono ?_; rintro r w7 ⟨rfl, hb7⟩; have HB7 := Lib.hid (below_on (below_drewN HB3.out _) hb7 (below_drewN HB3.out _).size); clear hb7)
                    go_ret
                    exact ⟨rfl, HB7.out⟩
                  · by_cases h2 : hi < Bk - Bi - 4
                    · clear next
                      go_wp2
                      go_quiet (fail)
                      go_wp2
                      go_quiet (fail)
                      go_wp2_with (go_at_call 10; refine (lives4_any _).mono ?_; rintro r w7 ⟨rfl, hb7⟩; have HB7 := Lib.hid (below_on (below_drewN HB3.out _) hb7 (below_drewN HB3.out _).size); clear hb7)
                      go_ret
                      exact ⟨rfl, HB7.out⟩
                    · have HN := next (fun _ _ => ⟨by omega, by omega⟩)
                      clear next
                      go_wp2
                      go_quiet (fail)
                      go_wp2
                      go_quiet (fail)
                      go_wp2
                      exact ⟨⟨k + 1, by simp, by omega, HN, _, rfl⟩, by simp [intOf]; omega⟩
            · obtain rfl : k = n := by omega
              have hgk : ¬ (k : Int) < (k : Int) := by omega
              have HN := nextI (fun _ _ j hj hjn h1 h2 => by
                have := HK.out j hj hjn h1 h2
                rw [HLo.out, HHi.out]
                exact this)
              clear nextI
              go_wp2
              exact ⟨⟨i + 1, by simp, by omega, HN, _, rfl⟩, by simp [intOf]; omega⟩
    · obtain rfl : i = n := by omega
      have hge : ¬ (i : Int) < (i : Int) := by omega
      have HL := Lib.hid (hS.out fun j hj => HC.out j hj (by rw [← hn.out]; exact hj))
      have HB4 := Lib.hid (below_drewN HB3.out d)
      clear HC
      go_wp2_with (go_at_call 11; refine (C3.out _).mono ?_; rintro e w5 ⟨q5, c5, rfl, hs5, hb5⟩; have HS5 := Lib.hid hs5; have HI5 := Lib.hid ((HI3.out.kept (below_drewN (Below.refl _ _) d)).kept hb5); have HW5 := Lib.hid ((HW3.out.kept (below_drewN (Below.refl _ _) d)).kept hb5); have HB5 := Lib.hid (below_on HB4.out hb5 HB4.out.size); clear hb5 hs5)
      go_loopw [19, 20] (fun V K W => ∃ j : Nat, K = .int .i64 (j : Int) ∧ V = .int .i64 ((N j : Nat) : Int) ∧ j ≤ i ∧ W = w5) (fun _ K _ => i - (intOf K).toNat)
      case atStart => exact ⟨0, rfl, by rw [hN0.out]; rfl, Nat.zero_le _, rfl⟩
      case round =>
        obtain ⟨j, rfl, rfl, hjn, rfl⟩ := hrel
        obtain ⟨Nj, hNj⟩ : ∃ Nj, N j = Nj := ⟨_, rfl⟩
        by_cases hjl : j < i
        · have hjL : j < I.length := by rw [hn.out]; exact hjl
          have hjl' : (j : Int) < (i : Int) := by omega
          have j0 : (0 : Int) ≤ (j : Int) := by omega
          have hst := HL.out j hjL
          obtain ⟨p', c', e', hat⟩ := HI5.out
          obtain ⟨a, hpa, hOn⟩ := hat j hjL
          injection e' with ep en ec
          rw [hpa] at ep
          subst ep
          rcases hx : I[j] with ⟨kind, label, ⟨op, rd, rn, rm, ra, imm, cond, wide⟩⟩
          rw [hx] at hOn hst
          obtain ⟨x0, x1, x2, x3, x4, x5, x6, x7, x8, x9⟩ := ItAt.of hOn
          unfold LStep at hst
          rw [hNj] at hst
          dsimp only at hst
          rw [hNj]
          clear hat hpa ec en hx hOn hNj x1 x2 x3 x4 x5 x6 x7 x8 x9
          by_cases hNc : Nj < nc
          · have hNc' : (Nj : Int) < (nc : Int) := by omega
            have hN2 : (0 : Int) ≤ (Nj : Int) := by omega
            rcases hst with ⟨rfl, hN1⟩ | ⟨hk, z, hz, hN1, hzw⟩
            · have H2 := Lib.hid hN1
              clear hN1
              go_wp2
              exact ⟨⟨j + 1, by simp, by rw [H2.out], by omega, by first | rfl | trivial⟩, by simp [intOf]; omega⟩
            · have H2 := Lib.hid hN1
              have hNl : Nj < CI.length := (List.getElem?_eq_some_iff.1 hz).1
              obtain ⟨p6, c6, e6, hat6⟩ := HS5.out
              obtain ⟨ac, hp6, hOn6⟩ := hat6 Nj hNl
              injection e6 with ep6 en6 ec6
              rw [hp6] at ep6
              subst ep6
              have hzz : CI[Nj] = z := by rw [List.getElem?_eq_getElem hNl] at hz; exact Option.some.inj hz
              rw [hzz] at hOn6
              rcases z with ⟨zop, zrd, zrn, zrm, zra, zi, zc, zw⟩
              have y7 : wr.cell? ⟨(ac.add (Nj * 8)).block, (ac.add (Nj * 8)).off + 7, none⟩ = some (.bool zw) := hOn6 7 _ rfl
              clear hOn6 hat6 hp6 en6 ec6 hzz hz hN1
              have q1 : (kind == 1) = false := by simpa using hk
              cases zw with
              | false =>
                clear hzw
                go_wp2
                exact ⟨⟨j + 1, by simp, by rw [H2.out]; simp, by omega, by first | rfl | trivial⟩, by simp [intOf]; omega⟩
              | true =>
                cases q2 : (kind == 2) with
                | false =>
                  clear hzw
                  go_wp2
                  exact ⟨⟨j + 1, by simp, by rw [H2.out]; simp, by omega, by first | rfl | trivial⟩, by simp [intOf]; omega⟩
                | true =>
                  have hwd := hzw (by simpa using q2) rfl
                  have hjw : j < wl.length := by
                    apply Nat.lt_of_not_le
                    intro hge2
                    unfold As.wd at hwd
                    rw [List.getD_eq_getElem?_getD, List.getElem?_eq_none hge2] at hwd
                    cases hwd
                  have hjw' : (j : Int) < (nw : Int) := by rw [← hnw.out]; omega
                  obtain ⟨p8, c8, e8, hat8⟩ := HW5.out
                  obtain ⟨aw, hp8, hOn8⟩ := hat8 j hjw
                  injection e8 with ep8 en8 ec8
                  rw [hp8] at ep8
                  subst ep8
                  have hwv := hOn8 0 _ rfl
                  rw [add_zero', Nat.mul_one] at hwv
                  have hwt : wl[j] = true := by unfold As.wd at hwd; rw [List.getD_eq_getElem?_getD, List.getElem?_eq_getElem hjw] at hwd; exact hwd
                  rw [hwt] at hwv
                  clear hOn8 hat8 hp8 en8 ec8 hzw hwd hwt
                  go_wp2
                  exact ⟨⟨j + 1, by simp, by rw [H2.out]; simp, by omega, by first | rfl | trivial⟩, by simp [intOf]; omega⟩
          · have hNc' : ¬ (Nj : Int) < (nc : Int) := by omega
            clear hst
            go_wp2_with (go_at_call 10; refine (lives4_any _).mono ?_; rintro r w7 ⟨rfl, hb7⟩; have HB7 := Lib.hid (below_on HB5.out hb7 HB5.out.size); clear hb7)
            go_ret
            exact ⟨rfl, HB7.out⟩
        · obtain rfl : j = i := by omega
          have hge2 : ¬ (j : Int) < (j : Int) := by omega
          go_wp2_with (go_at_call 10; refine (lives4_any _).mono ?_; rintro r w7 ⟨rfl, hb7⟩; have HB7 := Lib.hid (below_on HB5.out hb7 HB5.out.size); clear hb7)
          go_ret
          exact ⟨rfl, HB7.out⟩
theorem lay_cells (pl pw : Option Addr) (cl cw n m : Nat) (L : List As.It) (wl : List Bool) (base : Int) (w : World) (hn : Hid (L.length = n)) (hm : Hid (wl.length = m)) (hb : n ≤ 100000) (h0 : 0 ≤ base) (h1 : base ≤ 262144)
    (hL : SliceC itC 10 w (.slice pl n cl) L) (hW : SliceC boolC 1 w (.slice pw m cw) wl) :
    Calls Try.prog 13 #[.slice pl n cl, .int .i64 base, .slice pw m cw] w fun e w' => ∃ a c, e = .returned (.slice (some a) (n + 1) c) ∧ (∀ k, k < n + 1 → w'.cell? (a.add k) = some (.int .i64 (As.at L wl base k))) ∧ Below w.heap.size w w' := by
  refine (alay_any pl pw cl cw n m L wl base w hn hm (by omega) (by omega) (by omega) (Lib.hid hL) (Lib.hid hW)).mono ?_
  rintro e w' ⟨v, rfl, hrow, hbl⟩
  have hl : (As.lay L wl base).length = n + 1 := by rw [lat_len, hn.out]
  have hs : SliceC intC 1 w' v (As.lay L wl base) := sliceC_own (f := intC) (sz := 1) (fun _ => rfl) (base := w.heap.size) (e := 3) (by
    rw [hl]
    unfold As.lay
    rw [hn.out]
    exact hrow)
  have hs' := hs
  obtain ⟨p, c, rfl, hat⟩ := hs'
  obtain ⟨a, rfl, -⟩ := hat 0 (by omega)
  rw [hl] at hs ⊢
  refine ⟨a, c, rfl, fun k hk => ?_, hbl⟩
  rw [slice_cell hs k (by omega), lay_get]
theorem lstep_of {I : List As.It} {base : Int} (hc : As.check I base = 0) (hf : As.findE I = 0) (wl : List Bool) (hcl : ∀ i (hi : i < I.length), CL I (As.at I wl base) wl i I[i] I.length) (i : Nat) (hi : i < I.length) :
    LStep (fun i => (As.insL I (As.atL I base) (As.wl I) (As.fn I) i).length) (As.codeI I base) wl i I[i] := by
  have g := good_of hc hf
  have hC : As.ClosedI I (As.fn I) base wl := fun j hj hk hw t ht => by
    obtain ⟨ht1, h2, h3⟩ := fnd_some ht
    exact hcl j hj hk hw t ht1 ht1 h2 h3
  have hIn := insL_succ I (As.atL I base) (As.wl I) (As.fn I) i hi
  by_cases h1 : I[i].kind = 1
  · left
    refine ⟨h1, ?_⟩
    show (As.insL _ _ _ _ (i + 1)).length = _
    rw [hIn, if_pos (by simp [h1]), List.append_nil]
  · right
    refine ⟨h1, As.insAt (As.atL I base) (As.wl I) (As.fn I) i I[i], insL_at I _ _ _ i I.length hi (Nat.le_refl _) h1, ?_, ?_⟩
    · show (As.insL _ _ _ _ (i + 1)).length = _
      rw [hIn, if_neg (by simpa using h1), List.length_append]; rfl
    · intro h hz
      unfold As.insAt at hz
      rw [if_pos (by simp [h])] at hz
      exact As.wide_least g base wl hC i hz
theorem least_all (p pw : Option Addr) (c cw : Nat) (L : List As.Run) (base : Int) (wl : List Bool) (w : World) (hs : SliceC runC 11 w (.slice p L.length c) L) (hf : ∀ r ∈ L, (Lit.int .i64 r.item.label).wf = true) (hm : L.length ≤ maxLen) (hw : SliceC boolC 1 w (.slice pw wl.length cw) wl) :
    Calls Try.prog 5 #[.slice p L.length c, .int .i64 base, .slice pw wl.length cw] w fun e w' => e = .returned (.bool true) ∧ Below w.heap.size w w' := by
  have hl := items_len L
  have hwf := items_wf hf
  have C1 : Hid (Calls Try.prog 6 #[.slice p L.length c] w fun e w' => ∃ q cc, e = .returned (.slice q (As.items L).length cc) ∧ SliceC itC 10 w' (.slice q (As.items L).length cc) (As.items L) ∧ Below w.heap.size w w') := Lib.hid (by
    refine (items_any p c L.length L w (Lib.hid rfl) hm (Lib.hid hs)).mono ?_
    rintro e w' ⟨v, rfl, hrow, hb⟩
    have h1 := sliceC_own itC_len hrow
    obtain ⟨q, cc, rfl⟩ := own_slice' hrow
    exact ⟨q, cc, rfl, h1, hb⟩)
  generalize As.items L = I at *
  by_cases hc : As.check I base = 0
  · by_cases hfe : As.findE I = 0
    · by_cases ha : 262144 < As.allLen I
      · exact least_err p pw c cw L.length I.length wl.length base 5 I w (by decide) C1 (Lib.hid fun w q cc h => asm_big q cc I.length I base _ w (Lib.hid rfl) (by omega) (Lib.hid h) (Lib.hid hwf) (Lib.hid hc) (Lib.hid hfe) (Lib.hid rfl) ha)
      · have hbs := (none_of hc).1
        have hg := codeI_good hc hfe (by omega : I.length ≤ 100000)
        have hcl : (As.codeI I base).length ≤ I.length := by
          have : ∀ k, k ≤ I.length → (As.insL I (As.atL I base) (As.wl I) (As.fn I) k).length ≤ k := by
            intro k
            induction k with
            | zero => intro _; simp [As.insL]
            | succ k ih =>
              intro hk
              rw [insL_succ I _ _ _ k (by omega), List.length_append]
              have := ih (by omega)
              split <;> simp <;> omega
          exact this _ (Nat.le_refl _)
        have hsz : (⟨(As.code I base).toArray⟩ : ByteArray).size ≤ 16777216 := by
          have h1 := byt_len I (As.atL I base) (As.wl I) (As.fn I) I.length (Nat.le_refl _)
          have h2 : (⟨(As.code I base).toArray⟩ : ByteArray).size = (As.byt I (As.atL I base) (As.wl I) (As.fn I) I.length).length := by
            show (As.code I base).toArray.size = _
            rw [List.size_toArray]; rfl
          omega
        refine least_ok p pw c cw L.length I.length (As.codeI I base).length wl.length base I wl (As.at I wl base) (fun i => (As.insL I (As.atL I base) (As.wl I) (As.fn I) i).length) (As.codeI I base) ⟨(As.code I base).toArray⟩ w (Lib.hid rfl) (by omega) (Lib.hid rfl) (by omega) (Lib.hid rfl) (Lib.hid rfl) (Lib.hid rfl) (Lib.hid fun i hi => ?_) (Lib.hid (lstep_of hc hfe wl)) (Lib.hid hw) C1 (Lib.hid fun w q cc h => ?_) (Lib.hid fun w q cc h1 h2 => lay_cells q pw cc cw I.length wl.length I wl base w (Lib.hid rfl) (Lib.hid rfl) (by omega) hbs.1 hbs.2.1 h1 h2) (Lib.hid fun w => ?_)
        · have := As.at_bd I wl base i
          omega
        · refine (asm_ok q cc I.length I base _ w (Lib.hid rfl) (by omega) (Lib.hid h) (Lib.hid hwf) (Lib.hid hc) (Lib.hid hfe) (Lib.hid rfl) ha _ (Lib.hid rfl)).mono ?_
          rintro e w' ⟨v, rfl, hsl, hb⟩
          exact ⟨v, rfl, hb⟩
        · refine (all_any _ hsz w).mono ?_
          rintro e w' ⟨v, rfl, hrow, hb⟩
          rw [code_enc, De.allL_enc _ hg] at hrow
          have h1 : SliceC insC 8 w' v (As.codeI I base) := by
            unfold insCs at hrow
            exact sliceC_own (f := insC) (sz := 8) (fun _ => rfl) hrow
          obtain ⟨r, rc, rfl⟩ := own_slice' hrow
          exact ⟨r, rc, by rw [code_enc, De.allE_enc _ hg], h1, hb⟩
    · exact least_err p pw c cw L.length I.length wl.length base _ I w hfe C1 (Lib.hid fun w q cc h => asm_lost q cc I.length I base _ w (Lib.hid rfl) (by omega) (Lib.hid h) (Lib.hid hwf) (Lib.hid hc) (Lib.hid rfl) hfe)
  · exact least_err p pw c cw L.length I.length wl.length base _ I w hc C1 (Lib.hid fun w q cc h => asm_bad q cc I.length I base _ w (Lib.hid rfl) (by omega) (Lib.hid h) (Lib.hid rfl) hc)
theorem walk (p0v : Option Addr) (c0v : Nat) (L0 : List As.Run) (a1 : Int) (p2v : Option Addr) (c2v : Nat) (L2 : List Bool) (w1 : (Lit.int .i64 a1).wf = true) (w : World) (s0 : SliceC runC 11 w (.slice p0v L0.length c0v) L0) (f0 : ∀ r ∈ L0, (Lit.int .i64 r.item.label).wf = true) (m0 : L0.length ≤ maxLen) (s2 : SliceC boolC 1 w (.slice p2v L2.length c2v) L2) :
    Calls Try.prog 5 #[.slice p0v L0.length c0v, .int .i64 a1, .slice p2v L2.length c2v] w fun e w' => e = .returned (.bool true) ∧ Below w.heap.size w w' := by
  exact least_all p0v p2v c0v c2v L0 a1 L2 w s0 f0 m0 s2

set_option maxRecDepth 100000 in
theorem lifted (os : Os) (started : os.Started) (H : Type) (enc : TypeId × Value → H) :
    ReturnsInHanded {} Try.checked os 5 .any (Rows.asmLeastSpec.pre6 enc Try.prog Try.f5 Rows.asmLeastRow.domain false) (Rows.asmLeastSpec.post enc Try.prog Try.f5 false true false false) := by
  refine returnsInHanded_of_change (C := Try.checked) own started (by kernel_rfl) Try.func5
    (ChangeSpec.witness6 (enc := enc) (C := Try.checked) false ⟨#[], #[.slice none 0 0, .int .i64 0, .slice none 0 0], []⟩ 8 (by kernel_rfl) (by kernel_rfl) (by kernel_rfl) (by kernel_rfl)) ?_
  intro W base args ds gs before hval0 hW hcnd _
  have hval : ∀ (j : Nat) t v, Try.f5.params[j]? = some t → args[j]? = some v → Value.okWide Try.prog W .any base t v := hval0
  have hW' := hW
  obtain ⟨p, q, hA0, hV, rfl, hfz, hnd⟩ := hW
  have hA : DataW.TrodAll enc Try.prog W 0 (fun _ => true) true Try.f5.params.toList args.toList ds p := hA0
  rw [Try.params5] at hA hval
  obtain ⟨v0, vs0, d0, ds0, p0, q0, hargs, rfl, rfl, h0, r0⟩ := trodAll_cons hA
  obtain ⟨v1, vs1, d1, ds1, p1, q1, rfl, rfl, rfl, h1, r1⟩ := trodAll_cons r0
  obtain ⟨v2, vs2, d2, ds2, p2, q2, rfl, rfl, rfl, h2, r2⟩ := trodAll_cons r1
  obtain ⟨rfl, rfl, rfl⟩ := trodAll_nil r2
  obtain rfl : args = #[v0, v1, v2] := by cases args; simp_all
  obtain ⟨rfl, rfl⟩ := trodVars_none hV
  have k0 := h0
  have lt0 : ∀ x ∈ p0, x.block < W.heap.size := by obtain ⟨m, hm⟩ := k0; exact DataW.trod_lt m _ _ _ hm
  obtain ⟨L0, hL0, f0, m0⟩ := open_runs (hval 0 22 v0 rfl rfl) h0
  have s0 := hL0
  obtain ⟨p0v, c0v, rfl, -⟩ := hL0
  obtain ⟨a1, rfl, rfl, rfl, w1⟩ := open_int Try.underlying3 (hval 1 3 v1 rfl rfl) h1
  have k2 := h2
  have lt2 : ∀ x ∈ p2, x.block < W.heap.size := by obtain ⟨m, hm⟩ := k2; exact DataW.trod_lt m _ _ _ hm
  obtain ⟨L2, hL2⟩ := open_bools (hval 2 45 v2 rfl rfl) h2
  have s2 := hL2
  obtain ⟨p2v, c2v, rfl, -⟩ := hL2
  clear hA0 hval0
  refine (walk p0v c0v L0 a1 p2v c2v L2 w1 W s0 f0 m0 s2).mono fun e W' ⟨he, bel⟩ => ?_
  subst he
  exact ⟨_, rfl, _, _, _, [], _, [], hW', trodAll_mk1 (shut_bool Try.underlying4 _), (trodAll_cons_mk (Below.trod laidOut (by kernel_rfl) (of_decide_eq_true (by kernel_rfl)) k0 bel lt0) (trodAll_cons_mk (shut_int Try.underlying3 w1) (trodAll_cons_mk (Below.trod laidOut (by kernel_rfl) (of_decide_eq_true (by kernel_rfl)) k2 bel lt2) trodAll_mk0))), rfl, bel.frame _, fun h => by cases h⟩

theorem over : Rows.asmLeastRow.holds Try.pinned (OpenSpec.ofChange Rows.asmLeastSpec) :=
  OpenClaim.holds_of_wide 5 Try.f5 rfl rfl rfl rfl rfl rfl rfl ⟨rfl, rfl, rfl, rfl, rfl⟩ rfl rfl rfl rfl rfl (by kernel_rfl) Try.func5 (by kernel_rfl)
    (of_decide_eq_true (by kernel_rfl)) (by unfold Func.isWrapper; first | (rw [if_pos (by decide +kernel)]; kernel_rfl) | (rw [if_neg (by decide +kernel)]; exact ⟨rfl, rfl⟩))
    (fun os started H enc _ => lifted os started H enc)

/-- the statement -/
theorem proved : Rows.AsmLeastSaid := over
#print axioms proved
end Go.Proofs.Ytepklojfdijpmaa.asmLeast
