/-
  Plain mathematics of bytes as instructions: instructions' bytes, one behind the other, and what is left of them where they are cut. It names nothing of the translated program.
-/
import Derived.Test.YtplfpaffjaldoaaDecodeK0
namespace Go.Proofs.Ytplfpaffjaldoaa.De
open Go.RowKit
open Th (Ins none0 check encS)
set_option linter.unusedVariables false

def encAll : List Ins → ByteArray
  | [] => ⟨#[]⟩
  | i :: L => encS i ++ encAll L
theorem app_nil (a : ByteArray) : a ++ (⟨#[]⟩ : ByteArray) = a := by
  apply ByteArray.ext
  rw [ByteArray.data_append]
  show a.data ++ #[] = a.data
  simp
theorem nil_app (a : ByteArray) : (⟨#[]⟩ : ByteArray) ++ a = a := by
  apply ByteArray.ext
  rw [ByteArray.data_append]
  show #[] ++ a.data = a.data
  simp
theorem app_assoc (a b c : ByteArray) : a ++ b ++ c = a ++ (b ++ c) := by
  apply ByteArray.ext
  simp only [ByteArray.data_append, Array.append_assoc]
theorem encAll_app (L : List Ins) (i : Ins) : encAll (L ++ [i]) = encAll L ++ encS i := by
  induction L with
  | nil => show encS i ++ (⟨#[]⟩ : ByteArray) = (⟨#[]⟩ : ByteArray) ++ encS i; rw [app_nil, nil_app]
  | cons x L ih => show encS x ++ encAll (L ++ [i]) = encS x ++ encAll L ++ encS i; rw [ih, app_assoc]
theorem encAll_two (L M : List Ins) : encAll (L ++ M) = encAll L ++ encAll M := by
  induction L with
  | nil => show encAll M = (⟨#[]⟩ : ByteArray) ++ encAll M; rw [nil_app]
  | cons x L ih => show encS x ++ encAll (L ++ M) = encS x ++ encAll L ++ encAll M; rw [ih, app_assoc]
theorem ext_right (a b : ByteArray) : (a ++ b).extract a.size (a ++ b).size = b := by
  apply ByteArray.ext
  rw [ByteArray.size_append, ByteArray.data_extract, ByteArray.data_append]
  show (a.data ++ b.data).extract a.data.size (a.data.size + b.data.size) = b.data
  rw [Array.extract_append, (show a.data.extract a.data.size (a.data.size + b.data.size) = #[] from Array.eq_empty_of_size_eq_zero (by simp)), Nat.sub_self, Nat.add_sub_cancel_left, Array.extract_eq_self_of_le (Nat.le_refl _)]
  simp
theorem ext_left (a b : ByteArray) (c : Nat) (h : c ≤ a.size) : (a ++ b).extract 0 c = a.extract 0 c := by
  apply ByteArray.ext
  rw [ByteArray.data_extract, ByteArray.data_extract, ByteArray.data_append]
  have h' : c ≤ a.data.size := h
  have hz : c - a.data.size = 0 := Nat.sub_eq_zero_of_le h'
  rw [Array.extract_append, hz, Nat.zero_sub, Array.extract_zero]
  simp
theorem ext_over (a b : ByteArray) (c : Nat) (h : a.size ≤ c) : (a ++ b).extract 0 c = a ++ b.extract 0 (c - a.size) := by
  apply ByteArray.ext
  rw [ByteArray.data_extract, ByteArray.data_append, ByteArray.data_append, ByteArray.data_extract, Array.extract_append]
  have h' : a.data.size ≤ c := h
  show a.data.extract 0 c ++ b.data.extract (0 - a.data.size) (c - a.data.size) = a.data ++ b.data.extract 0 (c - a.data.size)
  rw [Nat.zero_sub, Array.extract_eq_self_of_le h']
def good (L : List Ins) : Prop := ∀ i ∈ L, check i = 0
theorem enc_len (i : Ins) (h : check i = 0) : (encS i).size = 2 ∨ (encS i).size = 4 := by
  have h1 := enc_size i h
  rcases Th.size_num i h with ⟨q, _⟩ | ⟨q, _⟩ <;> omega
theorem steps_enc (i : Ins) (s : ByteArray) (h : check i = 0) : steps (encS i ++ s) = (i, 0) :: steps s := by
  obtain ⟨b1, b2, b3⟩ := begins i h s
  have h1 := enc_size i h
  have hl : len (encS i ++ s) = (encS i).size := by omega
  have h2 := enc_len i h
  rw [steps_ok _ (by rw [ByteArray.size_append]; omega) b1, b2, hl, ext_right]
theorem steps_all (L : List Ins) (h : good L) : steps (encAll L) = L.map (fun i => (i, 0)) := by
  induction L with
  | nil => exact steps_nil _ rfl
  | cons i L ih =>
    show steps (encS i ++ encAll L) = _
    rw [steps_enc i _ (h i (List.mem_cons_self ..)), ih (fun x hx => h x (List.mem_cons_of_mem _ hx))]
    rfl
theorem errs_zero (L : List Ins) : errs (L.map (fun i => (i, 0))) = 0 := by
  induction L with
  | nil => rfl
  | cons i L ih => show errs ((i, 0) :: L.map (fun i => (i, 0))) = 0; rw [errs, if_pos rfl, ih]
theorem allE_enc (L : List Ins) (h : good L) : allE (encAll L) = 0 := by unfold allE; rw [steps_all L h, errs_zero]
theorem allL_enc (L : List Ins) (h : good L) : allL (encAll L) = L := by
  unfold allL
  rw [if_pos (allE_enc L h), steps_all L h, List.map_map, show (Prod.fst ∘ fun i : Ins => (i, (0 : Int))) = id from rfl, List.map_id]
theorem take_enc (L : List Ins) (k : Nat) : (encAll L).extract 0 (encAll (L.take k)).size = encAll (L.take k) := by
  have e : encAll L = encAll (L.take k) ++ encAll (L.drop k) := by rw [← encAll_two, List.take_append_drop]
  rw [e, ext_left _ _ _ (Nat.le_refl _)]
  apply ByteArray.ext
  rw [ByteArray.data_extract]
  exact Array.extract_eq_self_of_le (Nat.le_refl _)
theorem cut_err (i : Ins) (h : check i = 0) (c : Nat) (hc : c < (encS i).size) (hodd : c % 2 = 1) : err ((encS i).extract 0 c) = 3 := by
  have hz : ((encS i).extract 0 c).size = c := by rw [ByteArray.size_extract]; omega
  have h2 := enc_len i h
  by_cases h1 : c = 1
  · unfold err
    rw [if_pos (.inl (by unfold size; rw [if_pos (by omega)]))]
  · have h3 : c = 3 := by omega
    have h4 : (encS i).size = 4 := by omega
    have hs := size_enc i h
    have he := enc_size i h
    have hs4 : size (encS i) = 4 := by omega
    have hh : 59392 ≤ half (encS i) 0 := by
      rcases size_cases (encS i) with q | ⟨q, _⟩ | ⟨_, q⟩
      · omega
      · omega
      · exact q
    have hb : ∀ k, k < 2 → byt ((encS i).extract 0 c) k = byt (encS i) k := fun k hk => by
      rw [← byt_eq _ k (by omega), ← byt_eq (encS i) k (by omega), ByteArray.getElem_extract]
      simp
    have hh' : half ((encS i).extract 0 c) 0 = half (encS i) 0 := by
      unfold half
      rw [hb (2 * 0) (by decide), hb (2 * 0 + 1) (by decide)]
    have hst : size ((encS i).extract 0 c) = 4 := by
      unfold size
      rw [if_neg (by omega), if_neg (by rw [hh']; omega)]
    unfold err
    rw [if_pos (.inr (by rw [hst]; omega))]
theorem odd_err (L : List Ins) : ∀ (h : good L) (c : Nat) (hc : c ≤ (encAll L).size) (hodd : c % 2 = 1), allE ((encAll L).extract 0 c) = 3 := by
  induction L with
  | nil => intro h c hc hodd; have : c ≤ 0 := hc; omega
  | cons i L ih =>
    intro h c hc hodd
    have hi := h i (List.mem_cons_self ..)
    have h2 := enc_len i hi
    have hc' : c ≤ (encS i).size + (encAll L).size := by
      have : (encAll (i :: L)).size = (encS i ++ encAll L).size := rfl
      rw [this, ByteArray.size_append] at hc
      exact hc
    show allE ((encS i ++ encAll L).extract 0 c) = 3
    by_cases hlt : c < (encS i).size
    · rw [ext_left _ _ _ (by omega)]
      have he := cut_err i hi c hlt hodd
      have hz : ((encS i).extract 0 c).size = c := by rw [ByteArray.size_extract]; omega
      unfold allE
      rw [steps_err _ (by omega) (by rw [he]; decide), errs, if_neg (by show ¬ err _ = 0; rw [he]; decide)]
      exact he
    · rw [ext_over _ _ _ (by omega)]
      have := ih (fun x hx => h x (List.mem_cons_of_mem _ hx)) (c - (encS i).size) (by omega) (by omega)
      unfold allE at this ⊢
      rw [steps_enc i _ hi, errs, if_pos rfl, this]
theorem good_take {L : List Ins} (h : good L) (k : Nat) : good (L.take k) := fun i hi => h i (List.mem_of_mem_take hi)
theorem encAll_len (L : List Ins) (h : good L) : (encAll L).size ≤ L.length * 4 := by
  induction L with
  | nil => exact Nat.le_refl 0
  | cons i L ih =>
    show (encS i ++ encAll L).size ≤ _
    have h2 := enc_len i (h i (List.mem_cons_self ..))
    have := ih (fun x hx => h x (List.mem_cons_of_mem _ hx))
    rw [ByteArray.size_append, List.length_cons]
    omega
theorem take_len (L : List Ins) (k : Nat) : (encAll (L.take k)).size ≤ (encAll L).size := by
  have e : encAll L = encAll (L.take k) ++ encAll (L.drop k) := by rw [← encAll_two, List.take_append_drop]
  rw [e, ByteArray.size_append]
  omega
end Go.Proofs.Ytplfpaffjaldoaa.De
