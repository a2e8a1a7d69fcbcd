/-
  Fields that lie in memory, and what package thumb's put and join return.
-/
import Derived.Test.YtplfpaffjaldoaaThumbM
import Derived.Test.YtplfpaffjaldoaaThumbC
import Derived.WalkMore
import Derived.ScopeJumps
import Derived.Laws.BytesArg
import Derived.Deep.QuietTactic
import Derived.BigQuiet
namespace Go.Proofs.Ytplfpaffjaldoaa
open Go.ChangeShapes Go.WideShapes Go.ChangeAt Go.RowKit

def FldsAt (w : World) (b : Nat) (L : List Th.Fld) : Prop :=
  ∀ m f, L[m]? = some f → w.cell? ⟨b, 4 * m, none⟩ = some (.int .i64 f.num) ∧ w.cell? ⟨b, 4 * m + 1, none⟩ = some (.int .i64 (f.cnt : Int)) ∧
    w.cell? ⟨b, 4 * m + 2, none⟩ = some (.int .i64 (f.frm : Int)) ∧ w.cell? ⟨b, 4 * m + 3, none⟩ = some (.int .i64 (f.to : Int))
def flat (L : List Th.Fld) : List Value := L.flatMap fun f => [.int .i64 f.num, .int .i64 (f.cnt : Int), .int .i64 (f.frm : Int), .int .i64 (f.to : Int)]
theorem flat_get (L : List Th.Fld) : ∀ m f, L[m]? = some f → (flat L)[4 * m]? = some (.int .i64 f.num) ∧ (flat L)[4 * m + 1]? = some (.int .i64 (f.cnt : Int)) ∧
    (flat L)[4 * m + 2]? = some (.int .i64 (f.frm : Int)) ∧ (flat L)[4 * m + 3]? = some (.int .i64 (f.to : Int)) := by
  induction L with
  | nil => intro m f h; simp at h
  | cons g L ih =>
    intro m f h
    cases m with
    | zero => simp at h; subst h; simp [flat]
    | succ m =>
      have := ih m f (by simpa using h)
      have e : flat (g :: L) = .int .i64 g.num :: .int .i64 (g.cnt : Int) :: .int .i64 (g.frm : Int) :: .int .i64 (g.to : Int) :: flat L := by simp [flat]
      rw [e]
      rw [show 4 * (m + 1) = 4 * m + 4 by omega]
      simpa using this
theorem flds_alloc (w : World) (L : List Th.Fld) (t : TypeId) : FldsAt (w.alloc (.cells (flat L).toArray t)) w.heap.size L := by
  intro m f h
  have := flat_get L m f h
  simpa [go_sem] using this
theorem FldsAt.below {w w' : World} {b : Nat} {L : List Th.Fld} (h : FldsAt w b L) (hb : Below w.heap.size w w') (hlt : b < w.heap.size) : FldsAt w' b L := by
  intro m f hm
  obtain ⟨h0, h1, h2, h3⟩ := h m f hm
  refine ⟨?_, ?_, ?_, ?_⟩ <;> (rw [hb.cell (by exact hlt)]; assumption)
theorem below_drewN {B : Nat} {a w : World} (h : Below B a w) (n : Nat) : Below B a (w.drewN n) := h.trans ⟨rfl, rfl, rfl, Nat.le_refl _, fun _ _ => rfl⟩

def sliceLen : Value → Nat | .slice _ n _ => n | _ => 0
/-- where the slice of the fields from m on lies: behind the last one it stays where it was -/
def spotOf (b m n : Nat) : Addr := if m < n then ⟨b, 4 * m, none⟩ else ⟨b, 4 * (m - 1), none⟩

theorem put_nil (n : Int) (w : World) :
    Calls Try.prog 58 #[.int .i64 n, .slice none 0 0] w fun e w' => e = .returned (.int .i64 n) ∧ Below w.heap.size w w' := by
  go_enter Try.func58, Try.ntmps58
  go_wp2
  go_step3
  go_wp2
  go_step3
  go_wp2
  (try rw [Exit.noGoto_ret])
  go_ret
  exact ⟨rfl, Below.refl _ _⟩

set_option maxHeartbeats 4000000 in
theorem put_any (n0 : Nat) (L : List Th.Fld) (b : Nat) (w : World) (hn0 : n0 < 4294967296) (hL : ∀ f ∈ L, Th.okFld f) (hat : FldsAt w b L) (hlt : b < w.heap.size) (hlen : L.length ≤ 8) :
    Calls Try.prog 58 #[.int .i64 (n0 : Int), .slice (some ⟨b, 0, none⟩) L.length L.length] w fun e w' => e = .returned (.int .i64 (Th.put n0 L : Int)) ∧ Below w.heap.size w w' := by
  go_enter Try.func58, Try.ntmps58
  go_wp2
  refine wp_scope_jumps 0 (fun a' w' => Below w.heap.size w w' ∧ ∃ (m n : Nat) (x : Addr) (u5 u6 u7 u8 u9 u10 u11 u12 u13 u14 u15 u16 u17 u18 u19 u20 u21 u22 u23 u24 u25 u26 u27 u28 u29 : Value), a' = { tmps := #[.int .i64 (n : Int), .slice (some x) (L.length - m) (L.length - m), undef, undef, .int .i64 0, u5, u6, u7, u8, u9, u10, u11, u12, u13, u14, u15, u16, u17, u18, u19, u20, u21, u22, u23, u24, u25, u26, u27, u28, u29], defers := [] } ∧ m ≤ L.length ∧ (m < L.length → x = ⟨b, 4 * m, none⟩) ∧ n < 4294967296 ∧ Th.put n (L.drop m) = Th.put n0 L)
    (fun a' _ => sliceLen (a'.tmps.getD 1 undef)) rfl ?_ ?_
  · cases L with
    | nil =>
      go_wp2
      go_step3
      go_wp2
      simp only [Exit.jump]
      go_ret
      exact ⟨rfl, Below.refl _ _⟩
    | cons f L =>
      obtain ⟨g0, g1, g2, g3⟩ := hat 0 f rfl
      have hf := hL f (by simp)
      have HO := Lib.hid (Th.or_step n0 f hn0 hf)
      have hlt' := Th.orStep_lt n0 f hn0 hf
      obtain ⟨k0, k1, k2, k3, k4, k5⟩ := hf
      simp only [Nat.mul_zero, Nat.zero_add] at g0 g1 g2 g3
      have HL := Lib.hid hL
      have HA := Lib.hid hat
      clear hL hat
      have hle : (f :: L).length = L.length + 1 := rfl
      rw [hle]
      by_cases hone : L.length = 0
      · rw [hone]
        have HN := Lib.hid hone
        clear hone hle
        go_wp2
        go_step3
        go_wp2
        go_quiet (fail)
        go_wp2
        go_step3
        rw [HO.out]
        refine ⟨rfl, below_drewN ((Below.refl _ _).alloc (Nat.le_refl _) _) _, 1, Th.orStep n0 f, ⟨b, 0, none⟩, _, _, _, _, _, _, _, _, _, _, _, _, _, _, _, _, _, _, _, _, _, _, _, _, _, rfl, ?_, ?_, hlt', rfl⟩
        · simp
        · intro h; omega
      · have hlen' : L.length < 8 := by have := hlen; simp at this; omega
        generalize hk : L.length = k at *
        have HK := Lib.hid hk
        clear hk hle hlen
        go_wp2
        go_step3
        go_wp2
        go_quiet (fail)
        go_wp2
        go_step3
        rw [HO.out]
        obtain rfl := HK.out
        exact ⟨rfl, below_drewN ((Below.refl _ _).alloc (Nat.le_refl _) _) _, 1, Th.orStep n0 f, ⟨b, 4, none⟩, _, _, _, _, _, _, _, _, _, _, _, _, _, _, _, _, _, _, _, _, _, _, _, _, _, rfl, by simp, fun _ => rfl, hlt', rfl⟩
  · rintro a' w1 ⟨hb1, m, n, x, u5, u6, u7, u8, u9, u10, u11, u12, u13, u14, u15, u16, u17, u18, u19, u20, u21, u22, u23, u24, u25, u26, u27, u28, u29, rfl, hm, hx, hn, hput⟩
    by_cases hlt2 : m < L.length
    · obtain rfl := hx hlt2
      have hget : L[m]? = some L[m] := List.getElem?_eq_getElem hlt2
      have hdrop : L.drop m = L[m] :: L.drop (m + 1) := List.drop_eq_getElem_cons hlt2
      generalize L[m] = f at *
      rw [hdrop, Th.put_cons] at hput
      obtain ⟨g0, g1, g2, g3⟩ := (hat.below hb1 hlt) m f hget
      have hf := hL f (List.mem_of_getElem? hget)
      have HO := Lib.hid (Th.or_step n f hn hf)
      have hlt' := Th.orStep_lt n f hn hf
      obtain ⟨k0, k1, k2, k3, k4, k5⟩ := hf
      have HL := Lib.hid hL
      have HA := Lib.hid hat
      have HP := Lib.hid hput
      have HX := Lib.hid hx
      have hsz := hb1.size
      clear hL hat hdrop hget hput hx
      obtain ⟨k, hk⟩ : ∃ k, L.length - m = k + 1 := ⟨L.length - m - 1, by omega⟩
      have hk8 : k < 8 := by omega
      rw [hk]
      by_cases hone : k = 0
      · subst hone
        have HK := Lib.hid hk
        clear hk
        go_wp2
        go_quiet (fail)
        go_wp2
        go_step3
        rw [HO.out]
        have e : L.length - (m + 1) = 0 := by have := HK.out; omega
        refine ⟨rfl, ⟨below_drewN (hb1.alloc (by omega) _) _, m + 1, Th.orStep n f, ⟨b, 4 * m, none⟩, _, _, _, _, _, _, _, _, _, _, _, _, _, _, _, _, _, _, _, _, _, _, _, _, _, by rw [e], by omega, fun h => by omega, hlt', HP.out⟩, ?_⟩
        simp [sliceLen]
      · have HK := Lib.hid hk
        clear hk
        go_wp2
        go_quiet (fail)
        go_wp2
        go_step3
        rw [HO.out]
        have e : L.length - (m + 1) = k := by have := HK.out; omega
        refine ⟨rfl, ⟨below_drewN (hb1.alloc (by omega) _) _, m + 1, Th.orStep n f, ⟨b, 4 * m + 4, none⟩, _, _, _, _, _, _, _, _, _, _, _, _, _, _, _, _, _, _, _, _, _, _, _, _, _, by rw [e], by omega, fun _ => rfl, hlt', HP.out⟩, ?_⟩
        simp [sliceLen]
    · have e0 : L.length - m = 0 := by omega
      rw [e0]
      rw [List.drop_eq_nil_of_le (by omega)] at hput
      have HP := Lib.hid hput
      have HL := Lib.hid hL
      have HA := Lib.hid hat
      clear e0 hput hL hat hx
      go_wp2
      simp only [Exit.jump]
      go_ret
      refine ⟨?_, hb1⟩
      rw [← HP.out]
      rfl

theorem run_str2 (w : World) (c0 c1 : Int) (t : TypeId) :
    Sem.run Try.prog (convert 85 9 (.slice (some ⟨w.heap.size, 0, none⟩) 2 2)) (w.alloc (.cells #[.int .u8 c0, .int .u8 c1] t))
      = .ok (.string (strOfNums [c0, c1])) (w.alloc (.cells #[.int .u8 c0, .int .u8 c1] t)) := by
  refine run_convert_bytes_arg _ 85 5 Try.underlying85 Try.underlying5 w.heap.size 0 2 2 [c0, c1] rfl ?_ 9 Try.underlying9
  intro i hi
  match i, hi with
  | 0, _ => simp
  | 1, _ => simp
theorem run_str4 (w : World) (c0 c1 c2 c3 : Int) (t : TypeId) :
    Sem.run Try.prog (convert 85 9 (.slice (some ⟨w.heap.size, 0, none⟩) 4 4)) (w.alloc (.cells #[.int .u8 c0, .int .u8 c1, .int .u8 c2, .int .u8 c3] t))
      = .ok (.string (strOfNums [c0, c1, c2, c3])) (w.alloc (.cells #[.int .u8 c0, .int .u8 c1, .int .u8 c2, .int .u8 c3] t)) := by
  refine run_convert_bytes_arg _ 85 5 Try.underlying85 Try.underlying5 w.heap.size 0 4 4 [c0, c1, c2, c3] rfl ?_ 9 Try.underlying9
  intro i hi
  match i, hi with
  | 0, _ => simp
  | 1, _ => simp
  | 2, _ => simp
  | 3, _ => simp
theorem ret_str {a b : ByteArray} (h : a = b) : Ending.returned (.string a) = .returned (.string b) := by rw [h]

theorem join2 (n : Nat) (h : n < 65536) (w : World) :
    Calls Try.prog 57 #[.int .i64 (n : Int), .int .i64 2] w fun e w' => e = .returned (.string (Th.str2 n)) ∧ Below w.heap.size w w' := by
  have hr := run_str2 w
  go_enter Try.func57, Try.ntmps57
  go_wp2
  go_ret
  exact ⟨ret_str rfl, (Below.refl _ _).alloc (Nat.le_refl _) _⟩
theorem join4 (n : Nat) (h : n < 4294967296) (w : World) :
    Calls Try.prog 57 #[.int .i64 (n : Int), .int .i64 4] w fun e w' => e = .returned (.string (Th.str4 n)) ∧ Below w.heap.size w w' := by
  have hr := run_str4 w
  go_enter Try.func57, Try.ntmps57
  go_wp2
  go_ret
  exact ⟨ret_str rfl, (Below.refl _ _).alloc (Nat.le_refl _) _⟩
end Go.Proofs.Ytplfpaffjaldoaa
