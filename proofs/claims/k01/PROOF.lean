import PyProof.Rows.All
import Wide.All
import OpenK.AllK
import Wide.FinOn
import PySem.Challenge.RW_loftstore_k01_spans
open PySem PySem.W PyProof.Rows
set_option Elab.async false
namespace Spans
structure IsSpan (x : Int) : Prop where
  ex : ∃ n : Nat, x = 2 ^ n
theorem IsSpan.one : IsSpan 1 := ⟨0, rfl⟩
theorem IsSpan.twice {x : Int} (h : IsSpan x) : IsSpan (x * 2) := by
  obtain ⟨n, e⟩ := h.ex
  exact ⟨n + 1, by rw [Int.pow_succ, e]⟩
theorem IsSpan.half {x : Int} (h : IsSpan x) (h1 : 1 < x) : ∃ y, x = 2 * y ∧ IsSpan y := by
  obtain ⟨n, e⟩ := h.ex
  cases n with
  | zero => simp at e; omega
  | succ n => exact ⟨2 ^ n, by rw [e, Int.pow_succ, Int.mul_comm], ⟨n, rfl⟩⟩
theorem start1 {many : Int} : (1 : Int) ≤ 1 ∧ IsSpan 1 ∧ ((1 : Int) = 1 ∨ (1 : Int) + 1 ≤ 2 * many) := ⟨Int.le_refl 1, IsSpan.one, Or.inl rfl⟩
theorem turn1 {many span : Int} (h : IsSpan span) (l : span < many) (g : 1 ≤ span) : 1 ≤ span * 2 ∧ IsSpan (span * 2) ∧ (span * 2 = 1 ∨ span * 2 + 1 ≤ 2 * many) :=
  ⟨by omega, h.twice, Or.inr (by omega)⟩
theorem start2 {f : Int} (h : IsSpan f) (g : 1 ≤ f) : 1 ≤ f ∧ IsSpan f := ⟨g, h⟩
theorem div2 (n : Int) : Int.fdiv n 2 = n / 2 := Int.fdiv_eq_ediv_of_nonneg n (by decide)
theorem mod2 (n : Int) : Int.fmod n 2 = n % 2 := Int.fmod_eq_emod_of_nonneg n (by decide)
theorem turn2 {f : Int} (h : IsSpan f) (g : 1 < f) : 1 ≤ Int.fdiv f 2 ∧ IsSpan (Int.fdiv f 2) := by
  obtain ⟨y, e, s⟩ := h.half g
  have z : Int.fdiv f 2 = y := by rw [div2]; omega
  rw [z]
  exact ⟨by omega, s⟩
theorem less2 {f : Int} (g : 1 < f) : (Int.fdiv f 2).toNat < f.toNat := by rw [div2]; omega
theorem odd {f : Int} (h : IsSpan f) (g : 1 < f) : Int.fmod f 2 = 0 := by
  obtain ⟨y, e, s⟩ := h.half g
  rw [mod2]; omega
end Spans
set_option maxRecDepth 100000 in
set_option maxHeartbeats 8000000 in
theorem PySem.Challenge.cw_loftstore_k01_spans_holds : PySem.Challenge.rw_loftstore_k01_spans.Holds := by
  k_with "state" => first
    | exact Spans.start1
    | exact Spans.turn1 (by assumption) (by omega) (by omega)
    | exact Spans.turn2 (by assumption) (by omega)
    | exact Spans.start2 (by assumption) (by omega)
    | omega
  k_with "measure" => first
    | exact Spans.less2 (by omega)
    | omega
  k_with "end" => (have e9 := Spans.odd (by assumption) (by omega); omega)
  k_with "pyIter ref" => (k_of "_law_k" => k_state (fun pre many => 1 ≤ many) "_law_many")
  k_with "exec While Compare cons nil" => k_while_given ["many"] (fun many _ span => 1 ≤ span ∧ Spans.IsSpan span ∧ (span = 1 ∨ span + 1 ≤ 2 * many)) (fun many _ span => (many - span).toNat) "span"
  k_with "exec While BoolOp cons nil" => k_while (fun _ f => 1 ≤ f ∧ Spans.IsSpan f) (fun _ f => f.toNat) "_law_found"
  open_k
#print axioms PySem.Challenge.cw_loftstore_k01_spans_holds
