/-
  What package memmap's Find, and the document's, returns.
-/
import Derived.BigQuiet
import Derived.Test.YtchljdcjlkfbfaaMryR
import Derived.Test.YtchljdcjlkfbfaaMryW
namespace Go.Proofs.Ytchljdcjlkfbfaa
open Go.ChangeShapes Go.WideShapes Go.ChangeAt Go.RowKit
set_option linter.unusedVariables false

theorem rbox3 {w w1 : World} {t : TypeId} {b l : Int} {wr : Bool} (hb : Below (w.alloc (.cells #[.int .i64 b, .int .i64 l, .bool wr] t)).heap.size (w.alloc (.cells #[.int .i64 b, .int .i64 l, .bool wr] t)) w1) :
    w1.cell? ⟨w.heap.size, 0, none⟩ = some (.int .i64 b) ∧ w1.cell? ⟨w.heap.size, 1, none⟩ = some (.int .i64 l) ∧ w1.cell? ⟨w.heap.size, 2, none⟩ = some (.bool wr) := by
  refine ⟨?_, ?_, ?_⟩ <;> (rw [hb.cell (by simp)]; simp [go_sem])
/-- regions as a machine has them -/
def Mm.wfs (L : List Mm.Rg) : Prop := ∀ k (hk : k < L.length), -9223372036854775808 ≤ L[k].base ∧ L[k].len ≤ 9223372036854775807
theorem Mm.look_no {g : Mm.Rg} {a n : Int} {sw : Bool} {L : List Mm.Rg} {k : Nat} {r : Int × Int} (h : Mm.has g a n = false) (hr : Mm.look a n sw (g :: L) k = r) : Mm.look a n sw L ((k + 1 : Nat) : Int) = r := by
  rw [← hr]; show _ = if _ then _ else _; rw [h]; rfl
theorem Mm.look_yes {g : Mm.Rg} {a n : Int} {sw : Bool} {L : List Mm.Rg} {k : Nat} {r : Int × Int} (h : Mm.has g a n = true) (hs : (sw && !g.write) = false) (hr : Mm.look a n sw (g :: L) k = r) : r = ((k : Int), 0) := by
  rw [← hr]; show (if _ then _ else _) = _; rw [h, hs]; rfl
theorem Mm.look_bad {g : Mm.Rg} {a n : Int} {sw : Bool} {L : List Mm.Rg} {k : Nat} {r : Int × Int} (h : Mm.has g a n = true) (hs : (sw && !g.write) = true) (hr : Mm.look a n sw (g :: L) k = r) : r = (0, 8) := by
  rw [← hr]; show (if _ then _ else _) = _; rw [h, hs]; rfl
theorem Mm.look_nil {a n : Int} {sw : Bool} {k : Nat} {r : Int × Int} (hr : Mm.look a n sw [] k = r) : r = (0, 8) := hr.symm
/-- the document's form of the third test -/
theorem Mm.has_r {b l a n : Int} {v : Bool} (hb : 0 ≤ b) (ha : a ≤ 9223372036854775807) (hn : 0 ≤ n) (hl : l ≤ 9223372036854775807) (h0 : b ≤ a) (h1 : n ≤ l) : Mm.has ⟨b, l, v⟩ a n = decide (wrap64 (a - b) ≤ wrap64 (l - n)) := by
  unfold Mm.has
  rw [Mm.w64 (n := a - b) (by omega) (by omega), Mm.w64 (n := l - n) (by omega) (by omega)]
  exact decide_eq_decide.2 ⟨fun h => h.2.2, fun h => ⟨h0, h1, h⟩⟩
theorem Mm.has_b {b l a n : Int} {v : Bool} (h : ¬ b ≤ a) : Mm.has ⟨b, l, v⟩ a n = false := by unfold Mm.has; exact decide_eq_false fun g => h g.1
theorem Mm.has_l {b l a n : Int} {v : Bool} (h : ¬ n ≤ l) : Mm.has ⟨b, l, v⟩ a n = false := by unfold Mm.has; exact decide_eq_false fun g => h g.2.1
set_option maxHeartbeats 4000000 in
set_option maxRecDepth 100000 in
theorem find_arg (p : Option Addr) (n c : Nat) (a nn : Int) (sw : Bool) (w : World) (h1 : (nn != 1) = true) (h4 : (nn != 4) = true) :
    Calls Try.prog 30 #[.slice p n c, .int .i64 a, .int .i64 nn, .bool sw] w fun e w' => e = .returned (.tuple #[.int .i64 0, .int .i64 2]) ∧ Below w.heap.size w w' := by
  go_enter Try.func30, Try.ntmps30
  go_wp2
  exact bodyPost_ret (v := .tuple #[.int .i64 0, .int .i64 2]) (by simp [results, Try.results30, go_sem]) rfl ⟨rfl, Below.refl _ _⟩
set_option maxHeartbeats 4000000 in
set_option maxRecDepth 100000 in
theorem find_odd (p : Option Addr) (n c : Nat) (a : Int) (sw : Bool) (w : World) (h : (Int.tmod a 4 != 0) = true) :
    Calls Try.prog 30 #[.slice p n c, .int .i64 a, .int .i64 4, .bool sw] w fun e w' => e = .returned (.tuple #[.int .i64 0, .int .i64 8]) ∧ Below w.heap.size w w' := by
  go_enter Try.func30, Try.ntmps30
  go_wp2
  exact bodyPost_ret (v := .tuple #[.int .i64 0, .int .i64 8]) (by simp [results, Try.results30, go_sem]) rfl ⟨rfl, Below.refl _ _⟩
set_option maxHeartbeats 4000000 in
set_option maxRecDepth 100000 in
theorem rfind_arg (p : Option Addr) (n c : Nat) (a nn : Int) (sw : Bool) (w : World) (h1 : (nn != 1) = true) (h4 : (nn != 4) = true) :
    Calls Try.prog 28 #[.slice p n c, .int .i64 a, .int .i64 nn, .bool sw] w fun e w' => e = .returned (.tuple #[.int .i64 0, .int .i64 2]) ∧ Below w.heap.size w w' := by
  go_enter Try.func28, Try.ntmps28
  go_wp2
  exact bodyPost_ret (v := .tuple #[.int .i64 0, .int .i64 2]) (by simp [results, Try.results28, go_sem]) rfl ⟨rfl, Below.refl _ _⟩
set_option maxHeartbeats 4000000 in
set_option maxRecDepth 100000 in
theorem rfind_odd (p : Option Addr) (n c : Nat) (a : Int) (sw : Bool) (w : World) (h : (Int.tmod a 4 != 0) = true) :
    Calls Try.prog 28 #[.slice p n c, .int .i64 a, .int .i64 4, .bool sw] w fun e w' => e = .returned (.tuple #[.int .i64 0, .int .i64 8]) ∧ Below w.heap.size w w' := by
  go_enter Try.func28, Try.ntmps28
  go_wp2
  exact bodyPost_ret (v := .tuple #[.int .i64 0, .int .i64 8]) (by simp [results, Try.results28, go_sem]) rfl ⟨rfl, Below.refl _ _⟩
set_option maxHeartbeats 8000000 in
set_option maxRecDepth 100000 in
theorem find_4 (p : Option Addr) (n c : Nat) (L : List Mm.Rg) (a : Int) (sw : Bool) (X E : Int) (w : World) (hn : Hid (L.length = n)) (hm : n ≤ 100) (hL : Hid (SliceC rgC 3 w (.slice p n c) L)) (hW : Hid (Mm.wfs L)) (ha : Hid (a ≤ 9223372036854775807)) (h4 : (Int.tmod a 4 != 0) = false) (hR : Hid (Mm.look a 4 sw L 0 = (X, E))) :
    Calls Try.prog 30 #[.slice p n c, .int .i64 a, .int .i64 4, .bool sw] w fun e w' => e = .returned (.tuple #[.int .i64 X, .int .i64 E]) ∧ Below w.heap.size w w' := by
  go_enter Try.func30, Try.ntmps30
  go_wp2
  go_loopw [24] (fun K W => ∃ k : Nat, K = .int .i64 (k : Int) ∧ k ≤ n ∧ Hid (Mm.look a 4 sw (L.drop k) k = (X, E)) ∧ Below w.heap.size w W) (fun K _ => n - (intOf K).toNat)
  case atStart => exact ⟨0, rfl, Nat.zero_le _, hR, Below.refl _ _⟩
  case round =>
    obtain ⟨k, rfl, hkn, HK, hB⟩ := hrel
    by_cases hlt : k < n
    · have hkL : k < L.length := by rw [hn.out]; exact hlt
      have hlt' : (k : Int) < (n : Int) := by omega
      have hk0 : (0 : Int) ≤ (k : Int) := by omega
      have hwf := hW.out k hkL
      have hdr : L.drop k = L[k] :: L.drop (k + 1) := List.drop_eq_getElem_cons hkL
      rw [hdr] at HK
      rcases hx : L[k] with ⟨b, l, v⟩
      rw [hx] at HK hwf
      have hL2 := hL.out
      obtain ⟨p', c', e', hat⟩ := hL2
      obtain ⟨ad, hpa, hOn0⟩ := hat k hkL
      injection e' with ep en ec
      rw [hpa] at ep
      subst ep
      rw [hx] at hOn0
      have hOn := hOn0.kept hB
      have x0 : wr.cell? (ad.add (k * 3)) = some (.int .i64 b) := by have h0 := hOn 0 _ rfl; rw [add_zero'] at h0; exact h0
      have x1 : wr.cell? ⟨(ad.add (k * 3)).block, (ad.add (k * 3)).off + 1, none⟩ = some (.int .i64 l) := hOn 1 _ rfl
      have x2 : wr.cell? ⟨(ad.add (k * 3)).block, (ad.add (k * 3)).off + 2, none⟩ = some (.bool v) := hOn 2 _ rfl
      have H0 := Lib.hid hwf
      clear hOn hOn0 hat hpa ec en hx hdr hwf
      cases hh : Mm.has ⟨b, l, v⟩ a 4 with
      | false =>
        have HK2 := Lib.hid (Mm.look_no hh HK.out)
        clear HK
        go_wp2_with (go_at_call 34; refine (has_any _ _ _ _ _ _ (Lib.hid (by decide)) (Lib.hid H0.out.1) ha (Lib.hid H0.out.2)).mono ?_; rintro e w1 ⟨rfl, hb1⟩; obtain ⟨y0, y1, y2⟩ := rbox3 hb1; have HB := Lib.hid ((hB.alloc hB.size _).trans (hb1.mono (by have := hB.size; simp; omega))); clear hb1)
        exact ⟨⟨k + 1, by simp, by omega, HK2, HB.out⟩, by simp [intOf]; omega⟩
      | true =>
        cases hs : (sw && !v) with
        | true =>
          have HK2 := Lib.hid (Prod.mk.inj (Mm.look_bad hh hs HK.out))
          clear HK hR
          obtain ⟨rfl, rfl⟩ : sw = true ∧ v = false := by cases sw <;> cases v <;> simp_all
          clear hs
          go_wp2_with (go_at_call 34; refine (has_any _ _ _ _ _ _ (Lib.hid (by decide)) (Lib.hid H0.out.1) ha (Lib.hid H0.out.2)).mono ?_; rintro e w1 ⟨rfl, hb1⟩; obtain ⟨y0, y1, y2⟩ := rbox3 hb1; have HB := Lib.hid ((hB.alloc hB.size _).trans (hb1.mono (by have := hB.size; simp; omega))); clear hb1)
          exact bodyPost_ret (v := .tuple #[.int .i64 0, .int .i64 8]) (by simp [results, Try.results30, go_sem]) rfl ⟨by rw [HK2.out.1, HK2.out.2], HB.out⟩
        | false =>
          have HK2 := Lib.hid (Prod.mk.inj (Mm.look_yes hh hs HK.out))
          clear HK hR
          cases sw with
          | false =>
            clear hs
            go_wp2_with (go_at_call 34; refine (has_any _ _ _ _ _ _ (Lib.hid (by decide)) (Lib.hid H0.out.1) ha (Lib.hid H0.out.2)).mono ?_; rintro e w1 ⟨rfl, hb1⟩; obtain ⟨y0, y1, y2⟩ := rbox3 hb1; have HB := Lib.hid ((hB.alloc hB.size _).trans (hb1.mono (by have := hB.size; simp; omega))); clear hb1)
            exact bodyPost_ret (v := .tuple #[.int .i64 k, .int .i64 0]) (by simp [results, Try.results30, go_sem]) rfl ⟨by rw [HK2.out.1, HK2.out.2], HB.out⟩
          | true =>
            obtain rfl : v = true := by cases v <;> simp_all
            clear hs
            go_wp2_with (go_at_call 34; refine (has_any _ _ _ _ _ _ (Lib.hid (by decide)) (Lib.hid H0.out.1) ha (Lib.hid H0.out.2)).mono ?_; rintro e w1 ⟨rfl, hb1⟩; obtain ⟨y0, y1, y2⟩ := rbox3 hb1; have HB := Lib.hid ((hB.alloc hB.size _).trans (hb1.mono (by have := hB.size; simp; omega))); clear hb1)
            exact bodyPost_ret (v := .tuple #[.int .i64 k, .int .i64 0]) (by simp [results, Try.results30, go_sem]) rfl ⟨by rw [HK2.out.1, HK2.out.2], HB.out⟩
    · have hge : ¬ (k : Int) < (n : Int) := by omega
      have hk : L.drop k = [] := List.drop_eq_nil_of_le (by rw [hn.out]; omega)
      rw [hk] at HK
      have HK2 := Lib.hid (Prod.mk.inj (Mm.look_nil HK.out))
      clear HK hk
      go_wp2
      exact bodyPost_ret (v := .tuple #[.int .i64 0, .int .i64 8]) (by simp [results, Try.results30, go_sem]) rfl ⟨by rw [HK2.out.1, HK2.out.2], hB⟩
set_option maxHeartbeats 8000000 in
set_option maxRecDepth 100000 in
theorem find_1 (p : Option Addr) (n c : Nat) (L : List Mm.Rg) (a : Int) (sw : Bool) (X E : Int) (w : World) (hn : Hid (L.length = n)) (hm : n ≤ 100) (hL : Hid (SliceC rgC 3 w (.slice p n c) L)) (hW : Hid (Mm.wfs L)) (ha : Hid (a ≤ 9223372036854775807)) (hR : Hid (Mm.look a 1 sw L 0 = (X, E))) :
    Calls Try.prog 30 #[.slice p n c, .int .i64 a, .int .i64 1, .bool sw] w fun e w' => e = .returned (.tuple #[.int .i64 X, .int .i64 E]) ∧ Below w.heap.size w w' := by
  go_enter Try.func30, Try.ntmps30
  go_wp2
  go_loopw [24] (fun K W => ∃ k : Nat, K = .int .i64 (k : Int) ∧ k ≤ n ∧ Hid (Mm.look a 1 sw (L.drop k) k = (X, E)) ∧ Below w.heap.size w W) (fun K _ => n - (intOf K).toNat)
  case atStart => exact ⟨0, rfl, Nat.zero_le _, hR, Below.refl _ _⟩
  case round =>
    obtain ⟨k, rfl, hkn, HK, hB⟩ := hrel
    by_cases hlt : k < n
    · have hkL : k < L.length := by rw [hn.out]; exact hlt
      have hlt' : (k : Int) < (n : Int) := by omega
      have hk0 : (0 : Int) ≤ (k : Int) := by omega
      have hwf := hW.out k hkL
      have hdr : L.drop k = L[k] :: L.drop (k + 1) := List.drop_eq_getElem_cons hkL
      rw [hdr] at HK
      rcases hx : L[k] with ⟨b, l, v⟩
      rw [hx] at HK hwf
      have hL2 := hL.out
      obtain ⟨p', c', e', hat⟩ := hL2
      obtain ⟨ad, hpa, hOn0⟩ := hat k hkL
      injection e' with ep en ec
      rw [hpa] at ep
      subst ep
      rw [hx] at hOn0
      have hOn := hOn0.kept hB
      have x0 : wr.cell? (ad.add (k * 3)) = some (.int .i64 b) := by have h0 := hOn 0 _ rfl; rw [add_zero'] at h0; exact h0
      have x1 : wr.cell? ⟨(ad.add (k * 3)).block, (ad.add (k * 3)).off + 1, none⟩ = some (.int .i64 l) := hOn 1 _ rfl
      have x2 : wr.cell? ⟨(ad.add (k * 3)).block, (ad.add (k * 3)).off + 2, none⟩ = some (.bool v) := hOn 2 _ rfl
      have H0 := Lib.hid hwf
      clear hOn hOn0 hat hpa ec en hx hdr hwf
      cases hh : Mm.has ⟨b, l, v⟩ a 1 with
      | false =>
        have HK2 := Lib.hid (Mm.look_no hh HK.out)
        clear HK
        go_wp2_with (go_at_call 34; refine (has_any _ _ _ _ _ _ (Lib.hid (by decide)) (Lib.hid H0.out.1) ha (Lib.hid H0.out.2)).mono ?_; rintro e w1 ⟨rfl, hb1⟩; obtain ⟨y0, y1, y2⟩ := rbox3 hb1; have HB := Lib.hid ((hB.alloc hB.size _).trans (hb1.mono (by have := hB.size; simp; omega))); clear hb1)
        exact ⟨⟨k + 1, by simp, by omega, HK2, HB.out⟩, by simp [intOf]; omega⟩
      | true =>
        cases hs : (sw && !v) with
        | true =>
          have HK2 := Lib.hid (Prod.mk.inj (Mm.look_bad hh hs HK.out))
          clear HK hR
          obtain ⟨rfl, rfl⟩ : sw = true ∧ v = false := by cases sw <;> cases v <;> simp_all
          clear hs
          go_wp2_with (go_at_call 34; refine (has_any _ _ _ _ _ _ (Lib.hid (by decide)) (Lib.hid H0.out.1) ha (Lib.hid H0.out.2)).mono ?_; rintro e w1 ⟨rfl, hb1⟩; obtain ⟨y0, y1, y2⟩ := rbox3 hb1; have HB := Lib.hid ((hB.alloc hB.size _).trans (hb1.mono (by have := hB.size; simp; omega))); clear hb1)
          exact bodyPost_ret (v := .tuple #[.int .i64 0, .int .i64 8]) (by simp [results, Try.results30, go_sem]) rfl ⟨by rw [HK2.out.1, HK2.out.2], HB.out⟩
        | false =>
          have HK2 := Lib.hid (Prod.mk.inj (Mm.look_yes hh hs HK.out))
          clear HK hR
          cases sw with
          | false =>
            clear hs
            go_wp2_with (go_at_call 34; refine (has_any _ _ _ _ _ _ (Lib.hid (by decide)) (Lib.hid H0.out.1) ha (Lib.hid H0.out.2)).mono ?_; rintro e w1 ⟨rfl, hb1⟩; obtain ⟨y0, y1, y2⟩ := rbox3 hb1; have HB := Lib.hid ((hB.alloc hB.size _).trans (hb1.mono (by have := hB.size; simp; omega))); clear hb1)
            exact bodyPost_ret (v := .tuple #[.int .i64 k, .int .i64 0]) (by simp [results, Try.results30, go_sem]) rfl ⟨by rw [HK2.out.1, HK2.out.2], HB.out⟩
          | true =>
            obtain rfl : v = true := by cases v <;> simp_all
            clear hs
            go_wp2_with (go_at_call 34; refine (has_any _ _ _ _ _ _ (Lib.hid (by decide)) (Lib.hid H0.out.1) ha (Lib.hid H0.out.2)).mono ?_; rintro e w1 ⟨rfl, hb1⟩; obtain ⟨y0, y1, y2⟩ := rbox3 hb1; have HB := Lib.hid ((hB.alloc hB.size _).trans (hb1.mono (by have := hB.size; simp; omega))); clear hb1)
            exact bodyPost_ret (v := .tuple #[.int .i64 k, .int .i64 0]) (by simp [results, Try.results30, go_sem]) rfl ⟨by rw [HK2.out.1, HK2.out.2], HB.out⟩
    · have hge : ¬ (k : Int) < (n : Int) := by omega
      have hk : L.drop k = [] := List.drop_eq_nil_of_le (by rw [hn.out]; omega)
      rw [hk] at HK
      have HK2 := Lib.hid (Prod.mk.inj (Mm.look_nil HK.out))
      clear HK hk
      go_wp2
      exact bodyPost_ret (v := .tuple #[.int .i64 0, .int .i64 8]) (by simp [results, Try.results30, go_sem]) rfl ⟨by rw [HK2.out.1, HK2.out.2], hB⟩
set_option maxHeartbeats 8000000 in
set_option maxRecDepth 100000 in
theorem rfind_4 (p : Option Addr) (n c : Nat) (L : List Mm.Rg) (a : Int) (sw : Bool) (X E : Int) (w : World) (hn : Hid (L.length = n)) (hm : n ≤ 100) (hL : Hid (SliceC rgC 3 w (.slice p n c) L)) (hW : Hid (Mm.wfs L)) (ha : Hid (a ≤ 9223372036854775807)) (h4 : (Int.tmod a 4 != 0) = false) (hP : Hid (∀ k (hk : k < L.length), 0 ≤ L[k].base)) (hR : Hid (Mm.look a 4 sw L 0 = (X, E))) :
    Calls Try.prog 28 #[.slice p n c, .int .i64 a, .int .i64 4, .bool sw] w fun e w' => e = .returned (.tuple #[.int .i64 X, .int .i64 E]) ∧ Below w.heap.size w w' := by
  go_enter Try.func28, Try.ntmps28
  go_wp2
  go_loopw [10] (fun K W => ∃ k : Nat, K = .int .i64 (k : Int) ∧ k ≤ n ∧ Hid (Mm.look a 4 sw (L.drop k) k = (X, E)) ∧ Below w.heap.size w W) (fun K _ => n - (intOf K).toNat)
  case atStart => exact ⟨0, rfl, Nat.zero_le _, hR, Below.refl _ _⟩
  case round =>
    obtain ⟨k, rfl, hkn, HK, hB⟩ := hrel
    by_cases hlt : k < n
    · have hkL : k < L.length := by rw [hn.out]; exact hlt
      have hlt' : (k : Int) < (n : Int) := by omega
      have hk0 : (0 : Int) ≤ (k : Int) := by omega
      have hwf := hW.out k hkL
      have hp0 := hP.out k hkL
      have hdr : L.drop k = L[k] :: L.drop (k + 1) := List.drop_eq_getElem_cons hkL
      rw [hdr] at HK
      rcases hx : L[k] with ⟨b, l, v⟩
      rw [hx] at HK hwf hp0
      have hL2 := hL.out
      obtain ⟨p', c', e', hat⟩ := hL2
      obtain ⟨ad, hpa, hOn0⟩ := hat k hkL
      injection e' with ep en ec
      rw [hpa] at ep
      subst ep
      rw [hx] at hOn0
      have hOn := hOn0.kept hB
      have x0 : wr.cell? (ad.add (k * 3)) = some (.int .i64 b) := by have h0 := hOn 0 _ rfl; rw [add_zero'] at h0; exact h0
      have x1 : wr.cell? ⟨(ad.add (k * 3)).block, (ad.add (k * 3)).off + 1, none⟩ = some (.int .i64 l) := hOn 1 _ rfl
      have x2 : wr.cell? ⟨(ad.add (k * 3)).block, (ad.add (k * 3)).off + 2, none⟩ = some (.bool v) := hOn 2 _ rfl
      have H0 := Lib.hid hwf
      have H1 := Lib.hid hp0
      clear hOn hOn0 hat hpa ec en hx hdr hwf hp0
      by_cases g0 : b ≤ a
      · by_cases g1 : 4 ≤ l
        · have hq : Mm.has ⟨b, l, v⟩ a 4 = decide (wrap64 (a - b) ≤ wrap64 (l - 4)) := Mm.has_r H1.out ha.out (by decide) H0.out.2 g0 g1
          by_cases g2 : wrap64 (a - b) ≤ wrap64 (l - 4)
          · have hh : Mm.has ⟨b, l, v⟩ a 4 = true := by rw [hq]; exact decide_eq_true g2
            clear hq
            cases hs : (sw && !v) with
            | true =>
              have HK2 := Lib.hid (Prod.mk.inj (Mm.look_bad hh hs HK.out))
              clear HK hR hh
              obtain ⟨rfl, rfl⟩ : sw = true ∧ v = false := by cases sw <;> cases v <;> simp_all
              clear hs
              go_wp2; go_quiet (fail); go_wp2
              exact bodyPost_ret (v := .tuple #[.int .i64 0, .int .i64 8]) (by simp [results, Try.results28, go_sem]) rfl ⟨by rw [HK2.out.1, HK2.out.2], below_drewN hB _⟩
            | false =>
              have HK2 := Lib.hid (Prod.mk.inj (Mm.look_yes hh hs HK.out))
              clear HK hR hh
              cases sw with
              | false =>
                clear hs
                go_wp2; go_quiet (fail); go_wp2
                exact bodyPost_ret (v := .tuple #[.int .i64 k, .int .i64 0]) (by simp [results, Try.results28, go_sem]) rfl ⟨by rw [HK2.out.1, HK2.out.2], below_drewN hB _⟩
              | true =>
                obtain rfl : v = true := by cases v <;> simp_all
                clear hs
                go_wp2; go_quiet (fail); go_wp2
                exact bodyPost_ret (v := .tuple #[.int .i64 k, .int .i64 0]) (by simp [results, Try.results28, go_sem]) rfl ⟨by rw [HK2.out.1, HK2.out.2], below_drewN hB _⟩
          · have hh : Mm.has ⟨b, l, v⟩ a 4 = false := by rw [hq]; exact decide_eq_false g2
            clear hq
            have HK2 := Lib.hid (Mm.look_no hh HK.out)
            clear HK hh
            go_wp2; go_quiet (fail); go_wp2
            exact ⟨⟨k + 1, by simp, by omega, HK2, by first | exact hB | exact below_drewN hB _⟩, by simp [intOf]; omega⟩
        · have hh : Mm.has ⟨b, l, v⟩ a 4 = false := Mm.has_l g1
          have gb : decide (4 ≤ l) = false := decide_eq_false g1
          have HK2 := Lib.hid (Mm.look_no hh HK.out)
          clear HK hh
          go_wp2; go_quiet (fail); go_wp2
          exact ⟨⟨k + 1, by simp, by omega, HK2, by first | exact hB | exact below_drewN hB _⟩, by simp [intOf]; omega⟩
      · have hh : Mm.has ⟨b, l, v⟩ a 4 = false := Mm.has_b g0
        have gb : decide (b ≤ a) = false := decide_eq_false g0
        have HK2 := Lib.hid (Mm.look_no hh HK.out)
        clear HK hh
        go_wp2; go_quiet (fail); go_wp2
        exact ⟨⟨k + 1, by simp, by omega, HK2, by first | exact hB | exact below_drewN hB _⟩, by simp [intOf]; omega⟩
    · have hge : ¬ (k : Int) < (n : Int) := by omega
      have hk : L.drop k = [] := List.drop_eq_nil_of_le (by rw [hn.out]; omega)
      rw [hk] at HK
      have HK2 := Lib.hid (Prod.mk.inj (Mm.look_nil HK.out))
      clear HK hk
      go_wp2
      exact bodyPost_ret (v := .tuple #[.int .i64 0, .int .i64 8]) (by simp [results, Try.results28, go_sem]) rfl ⟨by rw [HK2.out.1, HK2.out.2], hB⟩
set_option maxHeartbeats 8000000 in
set_option maxRecDepth 100000 in
theorem rfind_1 (p : Option Addr) (n c : Nat) (L : List Mm.Rg) (a : Int) (sw : Bool) (X E : Int) (w : World) (hn : Hid (L.length = n)) (hm : n ≤ 100) (hL : Hid (SliceC rgC 3 w (.slice p n c) L)) (hW : Hid (Mm.wfs L)) (ha : Hid (a ≤ 9223372036854775807)) (hP : Hid (∀ k (hk : k < L.length), 0 ≤ L[k].base)) (hR : Hid (Mm.look a 1 sw L 0 = (X, E))) :
    Calls Try.prog 28 #[.slice p n c, .int .i64 a, .int .i64 1, .bool sw] w fun e w' => e = .returned (.tuple #[.int .i64 X, .int .i64 E]) ∧ Below w.heap.size w w' := by
  go_enter Try.func28, Try.ntmps28
  go_wp2
  go_loopw [10] (fun K W => ∃ k : Nat, K = .int .i64 (k : Int) ∧ k ≤ n ∧ Hid (Mm.look a 1 sw (L.drop k) k = (X, E)) ∧ Below w.heap.size w W) (fun K _ => n - (intOf K).toNat)
  case atStart => exact ⟨0, rfl, Nat.zero_le _, hR, Below.refl _ _⟩
  case round =>
    obtain ⟨k, rfl, hkn, HK, hB⟩ := hrel
    by_cases hlt : k < n
    · have hkL : k < L.length := by rw [hn.out]; exact hlt
      have hlt' : (k : Int) < (n : Int) := by omega
      have hk0 : (0 : Int) ≤ (k : Int) := by omega
      have hwf := hW.out k hkL
      have hp0 := hP.out k hkL
      have hdr : L.drop k = L[k] :: L.drop (k + 1) := List.drop_eq_getElem_cons hkL
      rw [hdr] at HK
      rcases hx : L[k] with ⟨b, l, v⟩
      rw [hx] at HK hwf hp0
      have hL2 := hL.out
      obtain ⟨p', c', e', hat⟩ := hL2
      obtain ⟨ad, hpa, hOn0⟩ := hat k hkL
      injection e' with ep en ec
      rw [hpa] at ep
      subst ep
      rw [hx] at hOn0
      have hOn := hOn0.kept hB
      have x0 : wr.cell? (ad.add (k * 3)) = some (.int .i64 b) := by have h0 := hOn 0 _ rfl; rw [add_zero'] at h0; exact h0
      have x1 : wr.cell? ⟨(ad.add (k * 3)).block, (ad.add (k * 3)).off + 1, none⟩ = some (.int .i64 l) := hOn 1 _ rfl
      have x2 : wr.cell? ⟨(ad.add (k * 3)).block, (ad.add (k * 3)).off + 2, none⟩ = some (.bool v) := hOn 2 _ rfl
      have H0 := Lib.hid hwf
      have H1 := Lib.hid hp0
      clear hOn hOn0 hat hpa ec en hx hdr hwf hp0
      by_cases g0 : b ≤ a
      · by_cases g1 : 1 ≤ l
        · have hq : Mm.has ⟨b, l, v⟩ a 1 = decide (wrap64 (a - b) ≤ wrap64 (l - 1)) := Mm.has_r H1.out ha.out (by decide) H0.out.2 g0 g1
          by_cases g2 : wrap64 (a - b) ≤ wrap64 (l - 1)
          · have hh : Mm.has ⟨b, l, v⟩ a 1 = true := by rw [hq]; exact decide_eq_true g2
            clear hq
            cases hs : (sw && !v) with
            | true =>
              have HK2 := Lib.hid (Prod.mk.inj (Mm.look_bad hh hs HK.out))
              clear HK hR hh
              obtain ⟨rfl, rfl⟩ : sw = true ∧ v = false := by cases sw <;> cases v <;> simp_all
              clear hs
              go_wp2; go_quiet (fail); go_wp2
              exact bodyPost_ret (v := .tuple #[.int .i64 0, .int .i64 8]) (by simp [results, Try.results28, go_sem]) rfl ⟨by rw [HK2.out.1, HK2.out.2], below_drewN hB _⟩
            | false =>
              have HK2 := Lib.hid (Prod.mk.inj (Mm.look_yes hh hs HK.out))
              clear HK hR hh
              cases sw with
              | false =>
                clear hs
                go_wp2; go_quiet (fail); go_wp2
                exact bodyPost_ret (v := .tuple #[.int .i64 k, .int .i64 0]) (by simp [results, Try.results28, go_sem]) rfl ⟨by rw [HK2.out.1, HK2.out.2], below_drewN hB _⟩
              | true =>
                obtain rfl : v = true := by cases v <;> simp_all
                clear hs
                go_wp2; go_quiet (fail); go_wp2
                exact bodyPost_ret (v := .tuple #[.int .i64 k, .int .i64 0]) (by simp [results, Try.results28, go_sem]) rfl ⟨by rw [HK2.out.1, HK2.out.2], below_drewN hB _⟩
          · have hh : Mm.has ⟨b, l, v⟩ a 1 = false := by rw [hq]; exact decide_eq_false g2
            clear hq
            have HK2 := Lib.hid (Mm.look_no hh HK.out)
            clear HK hh
            go_wp2; go_quiet (fail); go_wp2
            exact ⟨⟨k + 1, by simp, by omega, HK2, by first | exact hB | exact below_drewN hB _⟩, by simp [intOf]; omega⟩
        · have hh : Mm.has ⟨b, l, v⟩ a 1 = false := Mm.has_l g1
          have gb : decide (1 ≤ l) = false := decide_eq_false g1
          have HK2 := Lib.hid (Mm.look_no hh HK.out)
          clear HK hh
          go_wp2; go_quiet (fail); go_wp2
          exact ⟨⟨k + 1, by simp, by omega, HK2, by first | exact hB | exact below_drewN hB _⟩, by simp [intOf]; omega⟩
      · have hh : Mm.has ⟨b, l, v⟩ a 1 = false := Mm.has_b g0
        have gb : decide (b ≤ a) = false := decide_eq_false g0
        have HK2 := Lib.hid (Mm.look_no hh HK.out)
        clear HK hh
        go_wp2; go_quiet (fail); go_wp2
        exact ⟨⟨k + 1, by simp, by omega, HK2, by first | exact hB | exact below_drewN hB _⟩, by simp [intOf]; omega⟩
    · have hge : ¬ (k : Int) < (n : Int) := by omega
      have hk : L.drop k = [] := List.drop_eq_nil_of_le (by rw [hn.out]; omega)
      rw [hk] at HK
      have HK2 := Lib.hid (Prod.mk.inj (Mm.look_nil HK.out))
      clear HK hk
      go_wp2
      exact bodyPost_ret (v := .tuple #[.int .i64 0, .int .i64 8]) (by simp [results, Try.results28, go_sem]) rfl ⟨by rw [HK2.out.1, HK2.out.2], hB⟩
theorem find_any (p : Option Addr) (n c : Nat) (L : List Mm.Rg) (a nn : Int) (sw : Bool) (w : World) (hn : Hid (L.length = n)) (hm : n ≤ 100) (hL : Hid (SliceC rgC 3 w (.slice p n c) L)) (hW : Hid (Mm.wfs L)) (ha : Hid (a ≤ 9223372036854775807)) :
    Calls Try.prog 30 #[.slice p n c, .int .i64 a, .int .i64 nn, .bool sw] w fun e w' => e = .returned (.tuple #[.int .i64 (Mm.find L a nn sw).1, .int .i64 (Mm.find L a nn sw).2]) ∧ Below w.heap.size w w' := by
  unfold Mm.find
  by_cases h1 : nn = 1
  · subst h1
    rw [if_neg (fun h => h.1 rfl), if_neg (fun h => h (by simp))]
    exact find_1 p n c L a sw _ _ w hn hm hL hW ha (Lib.hid rfl)
  · by_cases h4 : nn = 4
    · subst h4
      rw [if_neg (fun h => h.2 rfl)]
      by_cases ht : Int.tmod a 4 = 0
      · rw [if_neg (fun h => h ht)]
        exact find_4 p n c L a sw _ _ w hn hm hL hW ha (by simpa using ht) (Lib.hid rfl)
      · rw [if_pos ht]
        exact find_odd p n c a sw w (by simpa using ht)
    · rw [if_pos ⟨h1, h4⟩]
      exact find_arg p n c a nn sw w (by simpa using h1) (by simpa using h4)
theorem rfind_any (p : Option Addr) (n c : Nat) (L : List Mm.Rg) (a nn : Int) (sw : Bool) (w : World) (hn : Hid (L.length = n)) (hm : n ≤ 100) (hL : Hid (SliceC rgC 3 w (.slice p n c) L)) (hW : Hid (Mm.wfs L)) (ha : Hid (a ≤ 9223372036854775807)) (hP : Hid (∀ k (hk : k < L.length), 0 ≤ L[k].base)) :
    Calls Try.prog 28 #[.slice p n c, .int .i64 a, .int .i64 nn, .bool sw] w fun e w' => e = .returned (.tuple #[.int .i64 (Mm.find L a nn sw).1, .int .i64 (Mm.find L a nn sw).2]) ∧ Below w.heap.size w w' := by
  unfold Mm.find
  by_cases h1 : nn = 1
  · subst h1
    rw [if_neg (fun h => h.1 rfl), if_neg (fun h => h (by simp))]
    exact rfind_1 p n c L a sw _ _ w hn hm hL hW ha hP (Lib.hid rfl)
  · by_cases h4 : nn = 4
    · subst h4
      rw [if_neg (fun h => h.2 rfl)]
      by_cases ht : Int.tmod a 4 = 0
      · rw [if_neg (fun h => h ht)]
        exact rfind_4 p n c L a sw _ _ w hn hm hL hW ha (by simpa using ht) hP (Lib.hid rfl)
      · rw [if_pos ht]
        exact rfind_odd p n c a sw w (by simpa using ht)
    · rw [if_pos ⟨h1, h4⟩]
      exact rfind_arg p n c a nn sw w (by simpa using h1) (by simpa using h4)
end Go.Proofs.Ytchljdcjlkfbfaa
