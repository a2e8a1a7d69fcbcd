/-
What package memmap's Find, and the document's, returns.
Plain mathematics of layer 7: a memory as the byte of each address; loads, stores, steps. It names nothing of the translated program.
What package thumb's within returns.
Plain: what is an instruction (package thumb's Check) has registers and numbers between these.
What words, taken, Holds, signed .. of package cpu, and the document's, return.
-/
import Derived.BigQuiet
import Derived.Test.YthciobjklhkkcaaGreatP03a
import Derived.Test.YthciobjklhkkcaaGreatP02b
import Derived.Test.YthciobjklhkkcaaGreatP01a
import Derived.Test.YthciobjklhkkcaaGreatP03b
section
namespace Go.Proofs.YthciobjklhkkcaaGreat
open Go.ChangeShapes Go.WideShapes Go.ChangeAt Go.RowKit
set_option maxHeartbeats 8000000
set_option maxRecDepth 100000
set_option linter.unusedVariables false

theorem rbox3 {w w1 : World} {t : TypeId} {b l : Int} {wr : Bool} (hb : Below (w.alloc (.cells #[.int .i64 b, .int .i64 l, .bool wr] t)).heap.size (w.alloc (.cells #[.int .i64 b, .int .i64 l, .bool wr] t)) w1) :
  w1.cell? ⟨w.heap.size, 0, none⟩ = some (.int .i64 b) ∧ w1.cell? ⟨w.heap.size, 1, none⟩ = some (.int .i64 l) ∧ w1.cell? ⟨w.heap.size, 2, none⟩ = some (.bool wr) := by
 refine ⟨?_, ?_, ?_⟩ <;> (rw [hb.cell (by simp)]; simp [go_sem])
/-- regions as a machine has them -/
def Mm.wfs (L : List Mm.Rg) : Prop := ∀ k (hk : k < L.length), -9223372036854775808 ≤ L[k].base ∧ L[k].len ≤ 9223372036854775807
theorem Mm.look_no {g : Mm.Rg} {a n : Int} {sw : Bool} {L : List Mm.Rg} {k : Nat} {r : Int × Int} (h : Mm.has g a n = false) (hr : Mm.look a n sw (g :: L) k = r) : Mm.look a n sw L ((k + 1 : Nat) : Int) = r := by
 rw [← hr]; show _ = if _ then _ else _; rw [h]; rfl
theorem Mm.look_yes {g : Mm.Rg} {a n : Int} {sw : Bool} {L : List Mm.Rg} {k : Nat} {r : Int × Int} (h : Mm.has g a n = true) (hs : (sw && !g.write) = false) (hr : Mm.look a n sw (g :: L) k = r) : r = ((k : Int), 0) := by
 rw [← hr]; show (if _ then _ else _) = _; rw [h, hs]; rfl
theorem Mm.look_bad {g : Mm.Rg} {a n : Int} {sw : Bool} {L : List Mm.Rg} {k : Nat} {r : Int × Int} (h : Mm.has g a n = true) (hs : (sw && !g.write) = true) (hr : Mm.look a n sw (g :: L) k = r) : r = (0, 8) := by
 rw [← hr]; show (if _ then _ else _) = _; rw [h, hs]; rfl
theorem Mm.look_nil {a n : Int} {sw : Bool} {k : Nat} {r : Int × Int} (hr : Mm.look a n sw [] k = r) : r = (0, 8) := hr.symm
theorem find_arg (p : Option Addr) (n c : Nat) (a nn : Int) (sw : Bool) (w : World) (h1 : (nn != 1) = true) (h4 : (nn != 4) = true) :
  Calls Tryz.prog 89 #[.slice p n c, .int .i64 a, .int .i64 nn, .bool sw] w fun e w' => e = .returned (.tuple #[.int .i64 0, .int .i64 2]) ∧ Below w.heap.size w w' := by
 go_enter Tryz.func89, Tryz.ntmps89
 go_wp2
 exact bodyPost_ret (v := .tuple #[.int .i64 0, .int .i64 2]) (by simp [results, Tryz.results89, go_sem]) rfl ⟨rfl, Below.refl _ _⟩
theorem find_odd (p : Option Addr) (n c : Nat) (a : Int) (sw : Bool) (w : World) (h : (Int.tmod a 4 != 0) = true) :
  Calls Tryz.prog 89 #[.slice p n c, .int .i64 a, .int .i64 4, .bool sw] w fun e w' => e = .returned (.tuple #[.int .i64 0, .int .i64 8]) ∧ Below w.heap.size w w' := by
 go_enter Tryz.func89, Tryz.ntmps89
 go_wp2
 exact bodyPost_ret (v := .tuple #[.int .i64 0, .int .i64 8]) (by simp [results, Tryz.results89, go_sem]) rfl ⟨rfl, Below.refl _ _⟩
theorem find_4 (p : Option Addr) (n c : Nat) (L : List Mm.Rg) (a : Int) (sw : Bool) (X E : Int) (w : World) (hn : Hid (L.length = n)) (hm : n ≤ 100) (hL : Hid (SliceC rgC 3 w (.slice p n c) L)) (hW : Hid (Mm.wfs L)) (ha : Hid (a ≤ 9223372036854775807)) (h4 : (Int.tmod a 4 != 0) = false) (hR : Hid (Mm.look a 4 sw L 0 = (X, E))) :
  Calls Tryz.prog 89 #[.slice p n c, .int .i64 a, .int .i64 4, .bool sw] w fun e w' => e = .returned (.tuple #[.int .i64 X, .int .i64 E]) ∧ Below w.heap.size w w' := by
 go_enter Tryz.func89, Tryz.ntmps89
 go_wp2
 go_loopw [24] (fun K W => ∃ k : Nat, K = .int .i64 (k : Int) ∧ k ≤ n ∧ Hid (Mm.look a 4 sw (L.drop k) k = (X, E)) ∧ Below w.heap.size w W) (fun K _ => n - (intOf K).toNat)
 case atStart => exact ⟨0, rfl, Nat.zero_le _, hR, Below.refl _ _⟩
 case round =>
  obtain ⟨k, rfl, hkn, HK, hB⟩ := hrel
  by_cases hlt : k < n
  ·have hkL : k < L.length := by rw [hn.out]; exact hlt
   have hlt' : (k : Int) < (n : Int) := by omega
   have hk0 : (0 : Int) ≤ (k : Int) := by omega
   have hwf := hW.out k hkL
   have hdr : L.drop k = L[k] :: L.drop (k + 1) := List.drop_eq_getElem_cons hkL
   rw [hdr] at HK
   rcases hx : L[k] with ⟨b, l, v⟩
   rw [hx] at HK hwf
   have hL2 := hL.out
   obtain ⟨p', c', e', hat⟩ := hL2
   obtain ⟨ad, hpa, hOn0⟩ := hat k hkL
   injection e' with ep en ec
   rw [hpa] at ep
   subst ep
   rw [hx] at hOn0
   have hOn := hOn0.kept hB
   have x0 : wr.cell? (ad.add (k * 3)) = some (.int .i64 b) := by have h0 := hOn 0 _ rfl; rw [add_zero'] at h0; exact h0
   have x1 : wr.cell? ⟨(ad.add (k * 3)).block, (ad.add (k * 3)).off + 1, none⟩ = some (.int .i64 l) := hOn 1 _ rfl
   have x2 : wr.cell? ⟨(ad.add (k * 3)).block, (ad.add (k * 3)).off + 2, none⟩ = some (.bool v) := hOn 2 _ rfl
   have H0 := Lib.hid hwf
   clear hOn hOn0 hat hpa ec en hx hdr hwf
   cases hh : Mm.has ⟨b, l, v⟩ a 4 with
   | false =>
    have HK2 := Lib.hid (Mm.look_no hh HK.out)
    clear HK
    go_wp2_with (go_at_call 119; refine (has_any _ _ _ _ _ _ (Lib.hid (by decide)) (Lib.hid H0.out.1) ha (Lib.hid H0.out.2)).mono ?_; rintro e w1 ⟨rfl, hb1⟩; obtain ⟨y0, y1, y2⟩ := rbox3 hb1; have HB := Lib.hid ((hB.alloc hB.size _).trans (hb1.mono (by have := hB.size; simp; omega))); clear hb1)
    exact ⟨⟨k + 1, by simp, by omega, HK2, HB.out⟩, by simp [intOf]; omega⟩
   | true =>
    cases hs : (sw && !v) with
    | true =>
     have HK2 := Lib.hid (Prod.mk.inj (Mm.look_bad hh hs HK.out))
     clear HK hR
     obtain ⟨rfl, rfl⟩ : sw = true ∧ v = false := by cases sw <;> cases v <;> simp_all
     clear hs
     go_wp2_with (go_at_call 119; refine (has_any _ _ _ _ _ _ (Lib.hid (by decide)) (Lib.hid H0.out.1) ha (Lib.hid H0.out.2)).mono ?_; rintro e w1 ⟨rfl, hb1⟩; obtain ⟨y0, y1, y2⟩ := rbox3 hb1; have HB := Lib.hid ((hB.alloc hB.size _).trans (hb1.mono (by have := hB.size; simp; omega))); clear hb1)
     exact bodyPost_ret (v := .tuple #[.int .i64 0, .int .i64 8]) (by simp [results, Tryz.results89, go_sem]) rfl ⟨by rw [HK2.out.1, HK2.out.2], HB.out⟩
    | false =>
     have HK2 := Lib.hid (Prod.mk.inj (Mm.look_yes hh hs HK.out))
     clear HK hR
     cases sw with
     | false =>
      clear hs
      go_wp2_with (go_at_call 119; refine (has_any _ _ _ _ _ _ (Lib.hid (by decide)) (Lib.hid H0.out.1) ha (Lib.hid H0.out.2)).mono ?_; rintro e w1 ⟨rfl, hb1⟩; obtain ⟨y0, y1, y2⟩ := rbox3 hb1; have HB := Lib.hid ((hB.alloc hB.size _).trans (hb1.mono (by have := hB.size; simp; omega))); clear hb1)
      exact bodyPost_ret (v := .tuple #[.int .i64 k, .int .i64 0]) (by simp [results, Tryz.results89, go_sem]) rfl ⟨by rw [HK2.out.1, HK2.out.2], HB.out⟩
     | true =>
      obtain rfl : v = true := by cases v <;> simp_all
      clear hs
      go_wp2_with (go_at_call 119; refine (has_any _ _ _ _ _ _ (Lib.hid (by decide)) (Lib.hid H0.out.1) ha (Lib.hid H0.out.2)).mono ?_; rintro e w1 ⟨rfl, hb1⟩; obtain ⟨y0, y1, y2⟩ := rbox3 hb1; have HB := Lib.hid ((hB.alloc hB.size _).trans (hb1.mono (by have := hB.size; simp; omega))); clear hb1)
      exact bodyPost_ret (v := .tuple #[.int .i64 k, .int .i64 0]) (by simp [results, Tryz.results89, go_sem]) rfl ⟨by rw [HK2.out.1, HK2.out.2], HB.out⟩
  ·have hge : ¬ (k : Int) < (n : Int) := by omega
   have hk : L.drop k = [] := List.drop_eq_nil_of_le (by rw [hn.out]; omega)
   rw [hk] at HK
   have HK2 := Lib.hid (Prod.mk.inj (Mm.look_nil HK.out))
   clear HK hk
   go_wp2
   exact bodyPost_ret (v := .tuple #[.int .i64 0, .int .i64 8]) (by simp [results, Tryz.results89, go_sem]) rfl ⟨by rw [HK2.out.1, HK2.out.2], hB⟩
theorem find_1 (p : Option Addr) (n c : Nat) (L : List Mm.Rg) (a : Int) (sw : Bool) (X E : Int) (w : World) (hn : Hid (L.length = n)) (hm : n ≤ 100) (hL : Hid (SliceC rgC 3 w (.slice p n c) L)) (hW : Hid (Mm.wfs L)) (ha : Hid (a ≤ 9223372036854775807)) (hR : Hid (Mm.look a 1 sw L 0 = (X, E))) :
  Calls Tryz.prog 89 #[.slice p n c, .int .i64 a, .int .i64 1, .bool sw] w fun e w' => e = .returned (.tuple #[.int .i64 X, .int .i64 E]) ∧ Below w.heap.size w w' := by
 go_enter Tryz.func89, Tryz.ntmps89
 go_wp2
 go_loopw [24] (fun K W => ∃ k : Nat, K = .int .i64 (k : Int) ∧ k ≤ n ∧ Hid (Mm.look a 1 sw (L.drop k) k = (X, E)) ∧ Below w.heap.size w W) (fun K _ => n - (intOf K).toNat)
 case atStart => exact ⟨0, rfl, Nat.zero_le _, hR, Below.refl _ _⟩
 case round =>
  obtain ⟨k, rfl, hkn, HK, hB⟩ := hrel
  by_cases hlt : k < n
  ·have hkL : k < L.length := by rw [hn.out]; exact hlt
   have hlt' : (k : Int) < (n : Int) := by omega
   have hk0 : (0 : Int) ≤ (k : Int) := by omega
   have hwf := hW.out k hkL
   have hdr : L.drop k = L[k] :: L.drop (k + 1) := List.drop_eq_getElem_cons hkL
   rw [hdr] at HK
   rcases hx : L[k] with ⟨b, l, v⟩
   rw [hx] at HK hwf
   have hL2 := hL.out
   obtain ⟨p', c', e', hat⟩ := hL2
   obtain ⟨ad, hpa, hOn0⟩ := hat k hkL
   injection e' with ep en ec
   rw [hpa] at ep
   subst ep
   rw [hx] at hOn0
   have hOn := hOn0.kept hB
   have x0 : wr.cell? (ad.add (k * 3)) = some (.int .i64 b) := by have h0 := hOn 0 _ rfl; rw [add_zero'] at h0; exact h0
   have x1 : wr.cell? ⟨(ad.add (k * 3)).block, (ad.add (k * 3)).off + 1, none⟩ = some (.int .i64 l) := hOn 1 _ rfl
   have x2 : wr.cell? ⟨(ad.add (k * 3)).block, (ad.add (k * 3)).off + 2, none⟩ = some (.bool v) := hOn 2 _ rfl
   have H0 := Lib.hid hwf
   clear hOn hOn0 hat hpa ec en hx hdr hwf
   cases hh : Mm.has ⟨b, l, v⟩ a 1 with
   | false =>
    have HK2 := Lib.hid (Mm.look_no hh HK.out)
    clear HK
    go_wp2_with (go_at_call 119; refine (has_any _ _ _ _ _ _ (Lib.hid (by decide)) (Lib.hid H0.out.1) ha (Lib.hid H0.out.2)).mono ?_; rintro e w1 ⟨rfl, hb1⟩; obtain ⟨y0, y1, y2⟩ := rbox3 hb1; have HB := Lib.hid ((hB.alloc hB.size _).trans (hb1.mono (by have := hB.size; simp; omega))); clear hb1)
    exact ⟨⟨k + 1, by simp, by omega, HK2, HB.out⟩, by simp [intOf]; omega⟩
   | true =>
    cases hs : (sw && !v) with
    | true =>
     have HK2 := Lib.hid (Prod.mk.inj (Mm.look_bad hh hs HK.out))
     clear HK hR
     obtain ⟨rfl, rfl⟩ : sw = true ∧ v = false := by cases sw <;> cases v <;> simp_all
     clear hs
     go_wp2_with (go_at_call 119; refine (has_any _ _ _ _ _ _ (Lib.hid (by decide)) (Lib.hid H0.out.1) ha (Lib.hid H0.out.2)).mono ?_; rintro e w1 ⟨rfl, hb1⟩; obtain ⟨y0, y1, y2⟩ := rbox3 hb1; have HB := Lib.hid ((hB.alloc hB.size _).trans (hb1.mono (by have := hB.size; simp; omega))); clear hb1)
     exact bodyPost_ret (v := .tuple #[.int .i64 0, .int .i64 8]) (by simp [results, Tryz.results89, go_sem]) rfl ⟨by rw [HK2.out.1, HK2.out.2], HB.out⟩
    | false =>
     have HK2 := Lib.hid (Prod.mk.inj (Mm.look_yes hh hs HK.out))
     clear HK hR
     cases sw with
     | false =>
      clear hs
      go_wp2_with (go_at_call 119; refine (has_any _ _ _ _ _ _ (Lib.hid (by decide)) (Lib.hid H0.out.1) ha (Lib.hid H0.out.2)).mono ?_; rintro e w1 ⟨rfl, hb1⟩; obtain ⟨y0, y1, y2⟩ := rbox3 hb1; have HB := Lib.hid ((hB.alloc hB.size _).trans (hb1.mono (by have := hB.size; simp; omega))); clear hb1)
      exact bodyPost_ret (v := .tuple #[.int .i64 k, .int .i64 0]) (by simp [results, Tryz.results89, go_sem]) rfl ⟨by rw [HK2.out.1, HK2.out.2], HB.out⟩
     | true =>
      obtain rfl : v = true := by cases v <;> simp_all
      clear hs
      go_wp2_with (go_at_call 119; refine (has_any _ _ _ _ _ _ (Lib.hid (by decide)) (Lib.hid H0.out.1) ha (Lib.hid H0.out.2)).mono ?_; rintro e w1 ⟨rfl, hb1⟩; obtain ⟨y0, y1, y2⟩ := rbox3 hb1; have HB := Lib.hid ((hB.alloc hB.size _).trans (hb1.mono (by have := hB.size; simp; omega))); clear hb1)
      exact bodyPost_ret (v := .tuple #[.int .i64 k, .int .i64 0]) (by simp [results, Tryz.results89, go_sem]) rfl ⟨by rw [HK2.out.1, HK2.out.2], HB.out⟩
  ·have hge : ¬ (k : Int) < (n : Int) := by omega
   have hk : L.drop k = [] := List.drop_eq_nil_of_le (by rw [hn.out]; omega)
   rw [hk] at HK
   have HK2 := Lib.hid (Prod.mk.inj (Mm.look_nil HK.out))
   clear HK hk
   go_wp2
   exact bodyPost_ret (v := .tuple #[.int .i64 0, .int .i64 8]) (by simp [results, Tryz.results89, go_sem]) rfl ⟨by rw [HK2.out.1, HK2.out.2], hB⟩
theorem mfind_any (p : Option Addr) (n c : Nat) (L : List Mm.Rg) (a nn : Int) (sw : Bool) (w : World) (hn : Hid (L.length = n)) (hm : n ≤ 100) (hL : Hid (SliceC rgC 3 w (.slice p n c) L)) (hW : Hid (Mm.wfs L)) (ha : Hid (a ≤ 9223372036854775807)) :
  Calls Tryz.prog 89 #[.slice p n c, .int .i64 a, .int .i64 nn, .bool sw] w fun e w' => e = .returned (.tuple #[.int .i64 (Mm.find L a nn sw).1, .int .i64 (Mm.find L a nn sw).2]) ∧ Below w.heap.size w w' := by
 unfold Mm.find
 by_cases h1 : nn = 1
 ·subst h1
  rw [if_neg (fun h => h.1 rfl), if_neg (fun h => h (by simp))]
  exact find_1 p n c L a sw _ _ w hn hm hL hW ha (Lib.hid rfl)
 ·by_cases h4 : nn = 4
  ·subst h4
   rw [if_neg (fun h => h.2 rfl)]
   by_cases ht : Int.tmod a 4 = 0
   ·rw [if_neg (fun h => h ht)]
    exact find_4 p n c L a sw _ _ w hn hm hL hW ha (by simpa using ht) (Lib.hid rfl)
   ·rw [if_pos ht]
    exact find_odd p n c a sw w (by simpa using ht)
  ·rw [if_pos ⟨h1, h4⟩]
   exact find_arg p n c a nn sw w (by simpa using h1) (by simpa using h4)
end Go.Proofs.YthciobjklhkkcaaGreat
end
section
namespace Go.Proofs.YthciobjklhkkcaaGreat
open Go.RowKit
set_option linter.unusedVariables false

structure My.St where
 i : Int
 o : Int
 r : Int
 fl : ByteArray
 inp : ByteArray
def My.sev (s : My.St) : List Mm.Rg := Mm.seven s.i s.o s.r (s.fl.size : Nat)
def My.merr (s : My.St) : Int := Mm.err s.i s.o s.r (s.fl.size : Nat)
def My.good (s : My.St) : Prop := My.merr s = 0 ∧ (s.inp.size : Int) = s.i
/-- New's error -/
def My.err (s : My.St) : Int := if My.merr s = 0 then (if (s.inp.size : Int) = s.i then 0 else 2) else My.merr s
/-- a byte of a word -/
def My.wb (v : Int) (j : Nat) : UInt8 := (Wd.bytes v).data.toList.getD j 0
/-- the byte of each address at first -/
def My.first (s : My.St) (a : Int) : UInt8 :=
 if a < (s.fl.size : Nat) then s.fl.data.toList.getD a.toNat 0 else if 536936448 ≤ a ∧ a < 536936448 + (s.inp.size : Nat) then s.inp.data.toList.getD (a - 536936448).toNat 0 else 0
/-- an access's error -/
def My.fe (s : My.St) (a n : Int) (wr : Bool) : Int := (Mm.find (My.sev s) a n wr).2
def My.put (M : Int → UInt8) (a n v : Int) : Int → UInt8 := fun b => if a ≤ b ∧ b < a + n then My.wb v (b - a).toNat else M b
def My.num (M : Int → UInt8) (a n : Int) : Int := if n = 1 then Wd.four (M a) 0 0 0 else Wd.four (M a) (M (a + 1)) (M (a + 2)) (M (a + 3))
def My.load (s : My.St) (M : Int → UInt8) (a n : Int) : Int × Int := if My.fe s a n false = 0 then (My.num M a n, 0) else (0, My.fe s a n false)
/-- the bytes of a row of addresses -/
def My.row (M : Int → UInt8) (b : Int) (n : Nat) : List UInt8 := (List.range n).map fun j => M (b + (j : Nat))

theorem My.row_len (M : Int → UInt8) (b : Int) (n : Nat) : (My.row M b n).length = n := by simp [My.row]
theorem My.row_get (M : Int → UInt8) (b : Int) (n j : Nat) (h : j < n) : (My.row M b n)[j]? = some (M (b + (j : Nat))) := by simp [My.row, h]
theorem My.bytes_len (v : Int) : (Wd.bytes v).data.toList.length = 4 := rfl
theorem My.wb_get (v : Int) (j : Nat) (h : j < 4) : (Wd.bytes v).data.toList[j]? = some (My.wb v j) := by
 unfold My.wb
 rw [List.getD_eq_getElem?_getD, List.getElem?_eq_getElem (by rw [My.bytes_len]; exact h)]
 rfl
/-- bytes laid over a row -/
theorem My.row_put (M : Int → UInt8) (b : Int) (len o n : Nat) (v : Int) (h : o + n ≤ len) (hn : n ≤ 4) :
  (My.row M b len).take o ++ (Wd.bytes v).data.toList.take n ++ (My.row M b len).drop (o + n) = My.row (My.put M (b + (o : Nat)) (n : Nat) v) b len := by
 have hl : ((Wd.bytes v).data.toList.take n).length = n := by rw [List.length_take, My.bytes_len]; omega
 have ht : ((My.row M b len).take o).length = o := by rw [List.length_take, My.row_len]; omega
 apply List.ext_getElem?
 intro j
 by_cases hj : j < len
 ·rw [My.row_get _ _ _ _ hj]
  unfold My.put
  by_cases h1 : j < o
  ·rw [if_neg (by omega), List.append_assoc, List.getElem?_append_left (by rw [ht]; exact h1), List.getElem?_take, if_pos h1, My.row_get _ _ _ _ hj]
  ·by_cases h2 : j < o + n
   ·rw [if_pos (by omega), List.append_assoc, List.getElem?_append_right (by rw [ht]; omega), ht, List.getElem?_append_left (by rw [hl]; omega), List.getElem?_take, if_pos (by omega), My.wb_get _ _ (by omega)]
    congr 2
    omega
   ·rw [if_neg (by omega), List.getElem?_append_right (by rw [List.length_append, ht, hl]; omega), List.length_append, ht, hl, List.getElem?_drop, My.row_get _ _ _ _ (by omega)]
    congr 3
    omega
 ·have e : (My.row (My.put M (b + (o : Nat)) (n : Nat) v) b len)[j]? = none := List.getElem?_eq_none (by rw [My.row_len]; omega)
  rw [e, List.getElem?_eq_none]
  rw [List.length_append, List.length_append, ht, hl, List.length_drop, My.row_len]
  omega
theorem My.row_same {M M' : Int → UInt8} {b : Int} {len : Nat} (h : ∀ j : Nat, j < len → M' (b + (j : Nat)) = M (b + (j : Nat))) : My.row M' b len = My.row M b len := by
 unfold My.row
 apply List.map_congr_left
 intro j hj
 exact h j (by simpa using hj)
theorem My.row_cut (M : Int → UInt8) (b : Int) (len o n : Nat) (h : o + n ≤ len) : ((My.row M b len).drop o).take n = My.row M (b + (o : Nat)) n := by
 apply List.ext_getElem?
 intro j
 rw [List.getElem?_take]
 split
 ·rw [List.getElem?_drop, My.row_get _ _ _ _ (by omega), My.row_get _ _ _ _ (by assumption)]
  congr 2
  omega
 ·rw [List.getElem?_eq_none (by rw [My.row_len]; omega)]

theorem My.okay {s : My.St} (h : My.good s) : Mm.okay s.i s.o s.r (s.fl.size : Nat) := Mm.okay_of h.1
/-- where a region begins, how long it is -/
def My.bs (s : My.St) (k : Nat) : Int := ((My.sev s).getD k ⟨0, 0, false⟩).base
def My.ln (s : My.St) (k : Nat) : Nat := ((My.sev s).getD k ⟨0, 0, false⟩).len.toNat
theorem My.bs_at (s : My.St) (k : Nat) (hk : k < (My.sev s).length) : (My.sev s)[k].base = My.bs s k := by
 unfold My.bs; rw [List.getD_eq_getElem?_getD, List.getElem?_eq_getElem hk]; rfl
theorem My.ln_at {s : My.St} (h : My.good s) (k : Nat) (hk : k < (My.sev s).length) : (My.sev s)[k].len = (My.ln s k : Nat) := by
 unfold My.ln; rw [List.getD_eq_getElem?_getD, List.getElem?_eq_getElem hk]
 have ok := My.okay h
 show _ = (((My.sev s)[k].len.toNat : Nat) : Int)
 unfold Mm.okay at ok
 have h0 : 0 ≤ (My.sev s)[k].len := by
  rcases Mm.seven_cases (My.okay h) k hk with ⟨_, _, h2, _⟩ | ⟨_, _, h2, _⟩
  ·have : (My.sev s)[k].len = (s.fl.size : Nat) := h2
   omega
  ·exact h2
 omega
theorem My.bs_bd {s : My.St} (h : My.good s) (k : Nat) (hk : k < 7) : 0 ≤ My.bs s k ∧ My.bs s k ≤ 538968064 ∧ My.ln s k ≤ 262144 := by
 have ok := My.okay h
 unfold Mm.okay at ok
 unfold My.bs My.ln My.sev Mm.seven
 rcases (by omega : k = 0 ∨ k = 1 ∨ k = 2 ∨ k = 3 ∨ k = 4 ∨ k = 5 ∨ k = 6) with rfl | rfl | rfl | rfl | rfl | rfl | rfl <;> simp <;> omega
/-- no two regions meet -/
theorem My.apart {s : My.St} (h : My.good s) {j k : Nat} (hj : j < 7) (hk : k < 7) {a : Int} (h1 : My.bs s j ≤ a) (h2 : a < My.bs s j + (My.ln s j : Nat)) (h3 : My.bs s k ≤ a) (h4 : a < My.bs s k + (My.ln s k : Nat)) : j = k := by
 refine Mm.apart (My.okay h) (a := a) hj hk ?_ ?_ ?_ ?_
 ·exact (My.bs_at s j hj).symm ▸ h1
 ·show a < (My.sev s)[j].base + (My.sev s)[j].len
  rw [My.bs_at s j hj, My.ln_at h j hj]; exact h2
 ·exact (My.bs_at s k hk).symm ▸ h3
 ·show a < (My.sev s)[k].base + (My.sev s)[k].len
  rw [My.bs_at s k hk, My.ln_at h k hk]; exact h4
/-- an access that there is: its region, its first byte's place there -/
theorem My.found {s : My.St} (h : My.good s) {a n : Int} {wr : Bool} (hf : My.fe s a n wr = 0) :
  ∃ k o m : Nat, k < 7 ∧ Mm.find (My.sev s) a n wr = ((k : Int), 0) ∧ a = My.bs s k + (o : Nat) ∧ n = (m : Nat) ∧ (m = 1 ∨ m = 4) ∧ o + m ≤ My.ln s k ∧ (wr = true → 1 ≤ k) ∧ 0 ≤ a ∧ a ≤ 539230208 := by
 have hf' : (Mm.find (My.sev s) a n wr).2 = 0 := hf
 unfold Mm.find at hf'
 split at hf'
 ·cases hf'
 ·rename_i h1
  split at hf'
  ·cases hf'
  ·rename_i h2
   obtain ⟨X, E, hXE⟩ : ∃ X E, Mm.look a n wr (My.sev s) 0 = (X, E) := ⟨_, _, rfl⟩
   rw [hXE] at hf'
   obtain ⟨k, hk, hX, hh, hw⟩ := Mm.look_ok hXE hf'
   have hh' := Mm.has_iff.1 hh
   rw [My.bs_at s k hk, My.ln_at h k hk] at hh'
   have hb := My.bs_bd h k hk
   have hn : n = 1 ∨ n = 4 := by omega
   refine ⟨k, (a - My.bs s k).toNat, n.toNat, hk, ?_, by omega, by omega, by omega, by omega, ?_, by omega, by omega⟩
   ·unfold Mm.find
    rw [if_neg h1, if_neg h2, hXE, hX]
    have : E = 0 := hf'
    rw [this]; congr 1; omega
   ·intro hwr
    rcases Mm.seven_cases (My.okay h) k hk with ⟨h0, _, _, hx⟩ | ⟨h0, _⟩
    ·have := hw hwr
     rw [show (My.sev s)[k].write = false from hx] at this
     cases this
    ·exact h0
/-- a store leaves the other regions -/
theorem My.put_far {s : My.St} (h : My.good s) (M : Int → UInt8) {k k' o m : Nat} (hk : k < 7) (hk' : k' < 7) (hne : k' ≠ k) (ho : o + m ≤ My.ln s k) (v : Int) :
  My.row (My.put M (My.bs s k + (o : Nat)) (m : Nat) v) (My.bs s k') (My.ln s k') = My.row M (My.bs s k') (My.ln s k') := by
 apply My.row_same
 intro j hj
 unfold My.put
 rw [if_neg]
 rintro ⟨h1, h2⟩
 exact hne (My.apart h hk' hk (a := My.bs s k' + (j : Nat)) (by omega) (by omega) (by omega) (by omega))
theorem My.row_zero (b : Int) (n : Nat) {M : Int → UInt8} (h : ∀ j : Nat, j < n → M (b + (j : Nat)) = 0) : My.row M b n = List.replicate n 0 := by
 apply List.ext_getElem?
 intro j
 by_cases hj : j < n
 ·rw [My.row_get _ _ _ _ hj, h j hj]; simp [hj]
 ·rw [List.getElem?_eq_none (by rw [My.row_len]; omega), List.getElem?_eq_none (by simp; omega)]
theorem My.bl (b : ByteArray) : b.data.toList.length = b.size := rfl
theorem My.row_flash (s : My.St) : My.row (My.first s) 0 s.fl.size = s.fl.data.toList := by
 apply List.ext_getElem?
 intro j
 by_cases hj : j < s.fl.size
 ·rw [My.row_get _ _ _ _ hj]
  unfold My.first
  rw [if_pos (by omega), List.getD_eq_getElem?_getD, show ((0 : Int) + (j : Nat)).toNat = j by omega, List.getElem?_eq_getElem (by rw [My.bl]; exact hj)]
  rfl
 ·rw [List.getElem?_eq_none (by rw [My.row_len]; omega), List.getElem?_eq_none (by rw [My.bl]; omega)]
theorem My.row_input {s : My.St} (h : My.good s) : My.row (My.first s) 536936448 s.inp.size = s.inp.data.toList := by
 have ok := My.okay h
 unfold Mm.okay at ok
 apply List.ext_getElem?
 intro j
 by_cases hj : j < s.inp.size
 ·rw [My.row_get _ _ _ _ hj]
  unfold My.first
  rw [if_neg (by omega), if_pos (by omega), List.getD_eq_getElem?_getD, show ((536936448 : Int) + (j : Nat) - 536936448).toNat = j by omega, List.getElem?_eq_getElem (by rw [My.bl]; exact hj)]
  rfl
 ·rw [List.getElem?_eq_none (by rw [My.row_len]; omega), List.getElem?_eq_none (by rw [My.bl]; omega)]
theorem My.row_none {s : My.St} (h : My.good s) {k : Nat} (hk : k < 7) (h2 : 2 ≤ k) : My.row (My.first s) (My.bs s k) (My.ln s k) = List.replicate (My.ln s k) 0 := by
 have ok := My.okay h
 unfold Mm.okay at ok
 have hi := h.2
 apply My.row_zero
 intro j hj
 unfold My.first
 have hb : 537001984 ≤ My.bs s k := by
  unfold My.bs My.sev Mm.seven
  rcases (by omega : k = 2 ∨ k = 3 ∨ k = 4 ∨ k = 5 ∨ k = 6) with rfl | rfl | rfl | rfl | rfl <;> simp
 rw [if_neg (by omega), if_neg (by omega)]
theorem My.bs_0 (s : My.St) : My.bs s 0 = 0 := rfl
theorem My.bs_1 (s : My.St) : My.bs s 1 = 536936448 := rfl
theorem My.ln_0 (s : My.St) : My.ln s 0 = s.fl.size := by show ((s.fl.size : Nat) : Int).toNat = _; omega
theorem My.ln_1 {s : My.St} (h : My.good s) : My.ln s 1 = s.inp.size := by show s.i.toNat = _; have := h.2; omega

/-- the number, byte by byte from the highest -/
def My.hi (M : Int → UInt8) (a : Int) (n : Nat) : Nat → Int
 | 0 => 0
 | d + 1 => 256 * My.hi M a n d + (M (a + ((n - 1 - d : Nat) : Nat))).toNat
end Go.Proofs.YthciobjklhkkcaaGreat
end
section
namespace Go.Proofs.YthciobjklhkkcaaGreat
open Go.ChangeShapes Go.WideShapes Go.ChangeAt Go.RowKit
set_option maxHeartbeats 4000000
set_option maxRecDepth 100000

theorem within_any (lop lrd lrn lrm lra limm lcond : Int) (lwide : Bool) (op rd rn rm ra imm cond : Int) (wide : Bool) (hop hrd hrn hrm hra himm hcond : Int) (hwide : Bool) (w : World)  :
  Calls Tryz.prog 158 #[.agg #[.int .i64 lop, .int .i64 lrd, .int .i64 lrn, .int .i64 lrm, .int .i64 lra, .int .i64 limm, .int .i64 lcond, .bool lwide], .agg #[.int .i64 op, .int .i64 rd, .int .i64 rn, .int .i64 rm, .int .i64 ra, .int .i64 imm, .int .i64 cond, .bool wide], .agg #[.int .i64 hop, .int .i64 hrd, .int .i64 hrn, .int .i64 hrm, .int .i64 hra, .int .i64 himm, .int .i64 hcond, .bool hwide]] w fun e w' => e = .returned (.bool (Th.within ⟨lop, lrd, lrn, lrm, lra, limm, lcond, lwide⟩ ⟨op, rd, rn, rm, ra, imm, cond, wide⟩ ⟨hop, hrd, hrn, hrm, hra, himm, hcond, hwide⟩)) ∧ Below w.heap.size w w' := by
 by_cases g0 : lrd ≤ rd
 case neg =>
  have e : Th.within ⟨lop, lrd, lrn, lrm, lra, limm, lcond, lwide⟩ ⟨op, rd, rn, rm, ra, imm, cond, wide⟩ ⟨hop, hrd, hrn, hrm, hra, himm, hcond, hwide⟩ = false := by simp [Th.within, g0]
  rw [e]
  exact within_no0 _ _ _ _ _ _ _ _ _ _ _ _ _ _ _ _ _ _ _ _ _ _ _ _ w  (decide_eq_false g0)
 by_cases g1 : rd ≤ hrd
 case neg =>
  have e : Th.within ⟨lop, lrd, lrn, lrm, lra, limm, lcond, lwide⟩ ⟨op, rd, rn, rm, ra, imm, cond, wide⟩ ⟨hop, hrd, hrn, hrm, hra, himm, hcond, hwide⟩ = false := by simp [Th.within, g1]
  rw [e]
  exact within_no1 _ _ _ _ _ _ _ _ _ _ _ _ _ _ _ _ _ _ _ _ _ _ _ _ w g0 (decide_eq_false g1)
 by_cases g2 : lrn ≤ rn
 case neg =>
  have e : Th.within ⟨lop, lrd, lrn, lrm, lra, limm, lcond, lwide⟩ ⟨op, rd, rn, rm, ra, imm, cond, wide⟩ ⟨hop, hrd, hrn, hrm, hra, himm, hcond, hwide⟩ = false := by simp [Th.within, g2]
  rw [e]
  exact within_no2 _ _ _ _ _ _ _ _ _ _ _ _ _ _ _ _ _ _ _ _ _ _ _ _ w g0 g1 (decide_eq_false g2)
 by_cases g3 : rn ≤ hrn
 case neg =>
  have e : Th.within ⟨lop, lrd, lrn, lrm, lra, limm, lcond, lwide⟩ ⟨op, rd, rn, rm, ra, imm, cond, wide⟩ ⟨hop, hrd, hrn, hrm, hra, himm, hcond, hwide⟩ = false := by simp [Th.within, g3]
  rw [e]
  exact within_no3 _ _ _ _ _ _ _ _ _ _ _ _ _ _ _ _ _ _ _ _ _ _ _ _ w g0 g1 g2 (decide_eq_false g3)
 by_cases g4 : lrm ≤ rm
 case neg =>
  have e : Th.within ⟨lop, lrd, lrn, lrm, lra, limm, lcond, lwide⟩ ⟨op, rd, rn, rm, ra, imm, cond, wide⟩ ⟨hop, hrd, hrn, hrm, hra, himm, hcond, hwide⟩ = false := by simp [Th.within, g4]
  rw [e]
  exact within_no4 _ _ _ _ _ _ _ _ _ _ _ _ _ _ _ _ _ _ _ _ _ _ _ _ w g0 g1 g2 g3 (decide_eq_false g4)
 by_cases g5 : rm ≤ hrm
 case neg =>
  have e : Th.within ⟨lop, lrd, lrn, lrm, lra, limm, lcond, lwide⟩ ⟨op, rd, rn, rm, ra, imm, cond, wide⟩ ⟨hop, hrd, hrn, hrm, hra, himm, hcond, hwide⟩ = false := by simp [Th.within, g5]
  rw [e]
  exact within_no5 _ _ _ _ _ _ _ _ _ _ _ _ _ _ _ _ _ _ _ _ _ _ _ _ w g0 g1 g2 g3 g4 (decide_eq_false g5)
 by_cases g6 : lra ≤ ra
 case neg =>
  have e : Th.within ⟨lop, lrd, lrn, lrm, lra, limm, lcond, lwide⟩ ⟨op, rd, rn, rm, ra, imm, cond, wide⟩ ⟨hop, hrd, hrn, hrm, hra, himm, hcond, hwide⟩ = false := by simp [Th.within, g6]
  rw [e]
  exact within_no6 _ _ _ _ _ _ _ _ _ _ _ _ _ _ _ _ _ _ _ _ _ _ _ _ w g0 g1 g2 g3 g4 g5 (decide_eq_false g6)
 by_cases g7 : ra ≤ hra
 case neg =>
  have e : Th.within ⟨lop, lrd, lrn, lrm, lra, limm, lcond, lwide⟩ ⟨op, rd, rn, rm, ra, imm, cond, wide⟩ ⟨hop, hrd, hrn, hrm, hra, himm, hcond, hwide⟩ = false := by simp [Th.within, g7]
  rw [e]
  exact within_no7 _ _ _ _ _ _ _ _ _ _ _ _ _ _ _ _ _ _ _ _ _ _ _ _ w g0 g1 g2 g3 g4 g5 g6 (decide_eq_false g7)
 by_cases g8 : limm ≤ imm
 case neg =>
  have e : Th.within ⟨lop, lrd, lrn, lrm, lra, limm, lcond, lwide⟩ ⟨op, rd, rn, rm, ra, imm, cond, wide⟩ ⟨hop, hrd, hrn, hrm, hra, himm, hcond, hwide⟩ = false := by simp [Th.within, g8]
  rw [e]
  exact within_no8 _ _ _ _ _ _ _ _ _ _ _ _ _ _ _ _ _ _ _ _ _ _ _ _ w g0 g1 g2 g3 g4 g5 g6 g7 (decide_eq_false g8)
 by_cases g9 : imm ≤ himm
 case neg =>
  have e : Th.within ⟨lop, lrd, lrn, lrm, lra, limm, lcond, lwide⟩ ⟨op, rd, rn, rm, ra, imm, cond, wide⟩ ⟨hop, hrd, hrn, hrm, hra, himm, hcond, hwide⟩ = false := by simp [Th.within, g9]
  rw [e]
  exact within_no9 _ _ _ _ _ _ _ _ _ _ _ _ _ _ _ _ _ _ _ _ _ _ _ _ w g0 g1 g2 g3 g4 g5 g6 g7 g8 (decide_eq_false g9)
 by_cases g10 : lcond ≤ cond
 case neg =>
  have e : Th.within ⟨lop, lrd, lrn, lrm, lra, limm, lcond, lwide⟩ ⟨op, rd, rn, rm, ra, imm, cond, wide⟩ ⟨hop, hrd, hrn, hrm, hra, himm, hcond, hwide⟩ = false := by simp [Th.within, g10]
  rw [e]
  exact within_no10 _ _ _ _ _ _ _ _ _ _ _ _ _ _ _ _ _ _ _ _ _ _ _ _ w g0 g1 g2 g3 g4 g5 g6 g7 g8 g9 (decide_eq_false g10)
 by_cases g11 : cond ≤ hcond
 case neg =>
  have e : Th.within ⟨lop, lrd, lrn, lrm, lra, limm, lcond, lwide⟩ ⟨op, rd, rn, rm, ra, imm, cond, wide⟩ ⟨hop, hrd, hrn, hrm, hra, himm, hcond, hwide⟩ = false := by simp [Th.within, g11]
  rw [e]
  exact within_no11 _ _ _ _ _ _ _ _ _ _ _ _ _ _ _ _ _ _ _ _ _ _ _ _ w g0 g1 g2 g3 g4 g5 g6 g7 g8 g9 g10 (decide_eq_false g11)
 have e : Th.within ⟨lop, lrd, lrn, lrm, lra, limm, lcond, lwide⟩ ⟨op, rd, rn, rm, ra, imm, cond, wide⟩ ⟨hop, hrd, hrn, hrm, hra, himm, hcond, hwide⟩ = (hwide || !wide) := by simp [Th.within, *]
 rw [e]
 exact within_yes _ _ _ _ _ _ _ _ _ _ _ _ _ _ _ _ _ _ _ _ _ _ _ _ w g0 g1 g2 g3 g4 g5 g6 g7 g8 g9 g10 g11
end Go.Proofs.YthciobjklhkkcaaGreat
end
section
namespace Go.Proofs.YthciobjklhkkcaaGreat.Cs
open Go.RowKit

theorem least_0 (op imm : Int) : (Th.least op imm).rd = 0 ∧ (Th.least op imm).rn = 0 ∧ (Th.least op imm).rm = 0 := by
  unfold Th.least Th.none0
  split
  · exact ⟨rfl, rfl, rfl⟩
  split
  · exact ⟨rfl, rfl, rfl⟩
  split <;> exact ⟨rfl, rfl, rfl⟩
def bd12 (x : Th.Ins) : Prop := x.rd ≤ 12 ∧ x.rn ≤ 12 ∧ x.rm ≤ 12
theorem bd12_ite {c : Prop} [Decidable c] {a b : Th.Ins} (ha : bd12 a) (hb : bd12 b) : bd12 (if c then a else b) := by
  by_cases h : c
  · rw [if_pos h]; exact ha
  · rw [if_neg h]; exact hb
theorem most_12 (op imm : Int) : bd12 (Th.most op imm) := by
  unfold Th.most Th.none0
  repeat' with_reducible apply bd12_ite
  all_goals (unfold bd12; simp)
theorem fits_of {i : Th.Ins} (h : Th.check i = 0) : Th.fits i = true := by
  cases hf : Th.fits i with
  | true => rfl
  | false => unfold Th.check at h; rw [hf] at h; simp at h
theorem size_check (i : Th.Ins) (h : (Th.size i == 0) = false) : Th.check i = 0 := by
  unfold Th.size at h
  split at h
  · next h0 => simpa using h0
  · simp at h
theorem in_regs {i : Th.Ins} (h : Th.check i = 0) : (0 ≤ i.rd ∧ i.rd ≤ 12) ∧ (0 ≤ i.rn ∧ i.rn ≤ 12) ∧ (0 ≤ i.rm ∧ i.rm ≤ 12) := by
  have hf := fits_of h
  unfold Th.fits Th.within at hf
  simp only [Bool.and_eq_true, decide_eq_true_eq] at hf
  obtain ⟨-, ⟨⟨⟨⟨⟨⟨⟨⟨⟨⟨⟨⟨h1, h2⟩, h3⟩, h4⟩, h5⟩, h6⟩, -⟩, -⟩, -⟩, -⟩, -⟩, -⟩, -⟩⟩ := hf
  have hl := least_0 i.op i.imm
  have hm := most_12 i.op i.imm
  unfold bd12 at hm
  omega
theorem in_ops {i : Th.Ins} (h : Th.check i = 0) : i.op = 1 ∨ i.op = 2 ∨ i.op = 3 ∨ i.op = 4 ∨ i.op = 5 ∨ i.op = 6 ∨ i.op = 7 ∨ i.op = 8 ∨ i.op = 9 ∨ i.op = 10 ∨ i.op = 11 ∨ i.op = 12 ∨ i.op = 13 ∨ i.op = 14 ∨ i.op = 15 ∨ i.op = 16 ∨ i.op = 17 ∨ i.op = 18 ∨ i.op = 19 ∨ i.op = 20 ∨ i.op = 21 ∨ i.op = 22 ∨ i.op = 23 ∨ i.op = 24 ∨ i.op = 25 := by
  have hf := fits_of h
  unfold Th.fits at hf
  simp only [Bool.and_eq_true] at hf
  have hk := hf.1
  unfold Th.known at hk
  split at hk
  · next h17 => have : i.op = 17 := by simpa using h17
                omega
  · simp only [Bool.or_eq_true, beq_iff_eq] at hk
    omega
theorem in_17 {rd rn rm ra imm cond : Int} {wide : Bool} (h : Th.check ⟨17, rd, rn, rm, ra, imm, cond, wide⟩ = 0) : 0 ≤ ra ∧ ra ≤ 12 ∧ ra ≠ rd := by
  have hf := fits_of h
  unfold Th.fits Th.within at hf
  simp only [Bool.and_eq_true, decide_eq_true_eq] at hf
  obtain ⟨hk, ⟨⟨⟨⟨⟨⟨⟨⟨⟨⟨⟨⟨-, -⟩, -⟩, -⟩, -⟩, -⟩, h1⟩, h2⟩, -⟩, -⟩, -⟩, -⟩, -⟩⟩ := hf
  have hk' : (ra != rd) = true := hk
  have h1' : (0 : Int) ≤ ra := h1
  have h2' : ra ≤ 12 := h2
  exact ⟨h1', h2', by simpa using hk'⟩
theorem in_18 {rd rn rm ra imm cond : Int} {wide : Bool} (h : Th.check ⟨18, rd, rn, rm, ra, imm, cond, wide⟩ = 0) : 1 ≤ ra ∧ 0 ≤ imm ∧ imm + ra ≤ 32 := by
  have hf := fits_of h
  unfold Th.fits Th.within at hf
  simp only [Bool.and_eq_true, decide_eq_true_eq] at hf
  obtain ⟨-, ⟨⟨⟨⟨⟨⟨⟨⟨⟨⟨⟨⟨-, -⟩, -⟩, -⟩, -⟩, -⟩, h1⟩, h2⟩, h3⟩, h4⟩, -⟩, -⟩, -⟩⟩ := hf
  have h1' : (1 : Int) ≤ ra := h1
  have h2' : ra ≤ wrap64 (32 - imm) := h2
  have h3' : (0 : Int) ≤ imm := h3
  have h4' : imm ≤ 31 := h4
  rw [Wd.wrap64_in _ (by omega) (by omega)] at h2'
  omega
theorem words_bd (s : St) (j : Nat) : 0 ≤ (words s).r j ∧ (words s).r j < 4294967296 := Wd.wrap_bd _
theorem add_w (a b : Int) : Wd.add a (wrap64 b) = Wd.add a b := by unfold Wd.add wrap64; omega
theorem made_pc (s : St) (i : Th.Ins) (l : Int) : (made s i l).pc = s.pc := by
  unfold made
  by_cases h : (i.op == 23) = true
  · rw [if_pos h]; rfl
  · rw [if_neg h]
    by_cases h2 : (i.op == 17) = true
    · simp only [h2, if_true]; rfl
    · simp only [h2]; rfl
end Go.Proofs.YthciobjklhkkcaaGreat.Cs
end
section
namespace Go.Proofs.YthciobjklhkkcaaGreat
open Go.ChangeShapes Go.WideShapes Go.ChangeAt Go.RowKit
set_option maxHeartbeats 1000000
set_option linter.unusedVariables false

theorem words_any (s : Cs.St) (w : World) :
  Calls Tryz.prog 114 #[.agg (Cs.cells s)] w fun e w' => e = .returned (.agg (Cs.cells (Cs.words s))) ∧ Below w.heap.size w w' := by
 have H0 := state_alloc w s
 have hl : ∀ s, StateAt ((w.alloc (.cells (Cs.cells s) 56)).alloc (.cells (Cs.cells Cs.none) 56)) w.heap.size s := fun s => (state_alloc w s).alloc _
 have hl2 : ∀ s t, StateAt ((w.alloc (.cells (Cs.cells s) 56)).alloc (.cells (Cs.cells t) 56)) (w.heap.size + 1) t := fun s t => state_alloc' _ _ _ (by simp)
 go_enter Tryz.func114, Tryz.ntmps114
 go_wp2_with (first | ((with_reducible refine wpList_load_regs (H0.alloc _) ?_ ?_); exact rfl))
 go_loopw [7] (fun K W => ∃ k : Nat, K = .int .i64 (k : Int) ∧ k ≤ 15 ∧ W = (w.alloc (.cells (Cs.cells (Cs.wk s k)) 56)).alloc (.cells (Cs.cells Cs.none) 56)) (fun K _ => 15 - (intOf K).toNat)
 case atStart => exact ⟨0, rfl, Nat.zero_le _, by rw [Cs.wk_0]; rfl⟩
 case round =>
  obtain ⟨k, rfl, hk, rfl⟩ := hrel
  by_cases hlt : k < 15
  ·have hlt' : (k : Int) < 15 := by omega
   have hk0 : (0 : Int) ≤ (k : Int) := by omega
   have hri := fun w => run_regs_index s k hlt w
   have hg : (Cs.cells (Cs.wk s k))[k]? = some (.int .i64 (s.r k)) := by rw [Cs.cells_get _ _ hlt, Cs.wk_at]
   have hp : (Cs.cells (Cs.wk s k)).setIfInBounds k (.int .i64 (Wd.wrap (s.r k))) = Cs.cells (Cs.wk s (k + 1)) := by rw [Cs.cells_put _ _ _ hlt, Cs.wk_put]
   go_wp2_with (first | (go_at_call 81; refine (wrap_any _ _).mono ?_; rintro e w' ⟨rfl, rfl⟩))
   exact ⟨⟨k + 1, rfl, by omega, rfl⟩, by simp [intOf]; omega⟩
  ·obtain rfl : k = 15 := by omega
   have hp := Cs.cells_pc (Cs.wk s 15)
   have hs := Cs.cells_spc (Cs.wk s 15) (Wd.wrap s.pc)
   have hpc : (Cs.wk s 15).pc = s.pc := rfl
   go_wp2_with (first | (go_at_call 81; refine (wrap_any _ _).mono ?_; rintro e w' ⟨rfl, rfl⟩) | ((with_reducible refine wpList_load_st (hl _) ?_ ?_); exact rfl) | ((with_reducible apply wpList_store_st (hl2 _ _)); exact rfl; rw [setRow_alloc' _ _ _ _ _ (by simp)]))
   try simp only [Exit.inBlock, Exit.then]
   refine bp_state rfl rfl (hl2 _ _) rfl ⟨by rw [← Cs.wk_15], by go_grown⟩

theorem holds_any (s : Cs.St) (cond : Int) (w : World) :
  Calls Tryz.prog 148 #[.agg (Cs.cells s), .int .i64 cond] w fun e w' => e = .returned (.bool (Cs.holds s cond)) ∧ Below w.heap.size w w' := by
 have h1 := Cs.cells_n s
 have h2 := Cs.cells_z s
 have h3 := Cs.cells_c s
 have h4 := Cs.cells_v s
 go_enter Tryz.func148, Tryz.ntmps148
 go_wp2
 all_goals
  go_ret
  refine ⟨ret_bool ?_, by go_grown⟩
  clear h1 h2 h3 h4
  simp [Cs.holds, *]
  try (cases s.n <;> cases s.v <;> rfl)

theorem csigned_any (a : Int) (w : World) (h0 : 0 ≤ a) (h1 : a < 4294967296) :
  Calls Tryz.prog 171 #[.int .i64 a] w fun e w' => e = .returned (.int .i64 (Cs.sgn a)) ∧ w = w' := by
 have hb := Wd.bit_bd a 31
 go_enter Tryz.func171, Tryz.ntmps171
 go_wp2_with (first | (go_at_call 170; refine (bit_any _ _ _).mono ?_; rintro e w' ⟨rfl, rfl⟩))
 go_ret
 exact ⟨wret_int (Cs.sgn_bit a h0 h1), rfl⟩

end Go.Proofs.YthciobjklhkkcaaGreat
end
