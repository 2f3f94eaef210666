/-
  Chapter 7: the specification's CompilePattern.
-/
import Derived.Test.YtocophekfbhfbaaEmit1
import Derived.Test.YtocophekfbhfbaaNode5e
namespace Go.Proofs.Ytocophekfbhfbaa
open Go.RowKit
set_option linter.unusedVariables false
set_option linter.unusedSimpArgs false

/-- What a right tree is compiled to. -/
def comp (ns : List Nd) : List In := cod ns (ns.length + 1) 0 (ns.length - 1) ++ [nI 6 0 0]
def cpRes (ns : List Nd) : List In := if nodesFault ns = 0 then comp ns else []

/-- A tree without a fault. -/
theorem tree_of {ns : List Nd} (h : nodesFault ns = 0) : 1 ≤ ns.length ∧ ns.length ≤ 24 ∧ ∃ bs, Beg ns ns.length bs := by
  unfold nodesFault at h
  by_cases h1 : ns.length < 1 ∨ 24 < ns.length
  · rw [if_pos h1] at h; omega
  rw [if_neg h1] at h
  refine ⟨by omega, by omega, ?_⟩
  have go : ∀ (m k : Nat) (bs : List Int), Beg ns k bs → k + m = ns.length → faultGo bs (ns.drop k) = 0 → ∃ bs', Beg ns ns.length bs' := by
    intro m
    induction m with
    | zero => intro k bs hb hk _; exact ⟨bs, by rw [← hk]; exact hb⟩
    | succ m ih =>
      intro k bs hb hk hf
      have hx : ns[k]? = some ns[k] := List.getElem?_eq_getElem (by omega)
      generalize ns[k] = x at hx
      rw [faultGo_at bs hx] at hf
      by_cases c1 : ¬ FormP x
      · rw [if_pos c1] at hf; omega
      rw [if_neg c1] at hf
      by_cases c2 : rangeB x = false
      · rw [if_pos c2] at hf; omega
      rw [if_neg c2] at hf
      by_cases c3 : beg bs x = -1
      · rw [if_pos c3] at hf; omega
      rw [if_neg c3] at hf
      exact ih (k + 1) _ (hb.succ hx (Decidable.not_not.1 c1) (by simpa using c2) c3) (by omega) hf
  exact go ns.length 0 [] (Beg.zero ns) (by omega) (by simpa using h)

theorem cpRes_len (ns : List Nd) : (cpRes ns).length ≤ 100 := by
  unfold cpRes
  split
  · rename_i h
    obtain ⟨h1, h2, bs, hb⟩ := tree_of h
    have := cod_len hb rfl (ns.length + 1) 0 (ns.length - 1) (by omega) (by omega)
    have h3 := hb.bd (Nat.le_refl _) (i := ns.length - 1) (by omega)
    unfold comp
    rw [List.length_append]
    simp only [List.length_cons, List.length_nil]
    omega
  · simp

set_option maxHeartbeats 3200000 in
set_option maxRecDepth 20000 in
theorem l7Compile_any (a : Option Addr) (n ca : Nat) (ns : List Nd) (hf : nodesFault ns = 0) (w : World) (ha : RdR ndE 5 w a n ns) :
    Calls Try.prog 190 #[.slice a n ca] w fun r w' => ∃ v, r = .returned v ∧ OwnR inE 8 252 w' w.heap.size v (comp ns).length (comp ns) ∧ Below w.heap.size w w' := by
  obtain ⟨h1, h2, bs, hb⟩ := tree_of hf
  have hlen := ha.1
  rw [hlen] at hb h1 h2
  have hbd := hb.bd (by omega) (i := n - 1) (by omega)
  have HE0 := l7Emit_any w a n ca ns ha bs hb (n + 1) (n - 1) (.slice none 0 0) [] w (by omega) (by omega) (OwnR.nil _ _ _ _ _) (Below.refl _ _) (by simp only [List.length_nil]; omega)
  simp only [List.nil_append, List.length_nil] at HE0
  have e1 : ((n - 1 : Nat) : Int) = (n : Int) - 1 := by omega
  rw [e1] at HE0
  obtain ⟨R, hR⟩ : ∃ R, R = comp ns := ⟨_, rfl⟩
  have hcl := cod_len hb hlen.symm (n + 1) 0 (n - 1) (by omega) (by omega)
  have hcomp : R = cod ns (n + 1) 0 (n - 1) ++ [nI 6 0 0] := by rw [hR]; unfold comp; rw [hlen]
  rw [← hR]
  generalize cod ns (n + 1) 0 (n - 1) = C at HE0 hcl hcomp
  have hC9 : C.length ≤ 100 := by omega
  have HE : Hid _ := HE0
  have HC : Hid _ := hcomp
  clear HE0 hR hcomp e1 hcl hbd hb hf hlen
  go_enter Try.func190, Try.ntmps190
  go_wp2_with fail
  refine Calls.mono HE.out ?_
  rintro r w1 ⟨v1, rfl, ho1, hb1⟩
  obtain ⟨va, vc, rfl, -, -, -⟩ := ho1.rd inE_len
  go_wp2_with (at_builtin; refine wpList_appIn rfl _ _ rfl w.heap.size _ _ _ rfl (ho1.alloc _) _ _ (nI 6 0 0) rfl (cellsI _ (nI 6 0 0) _) (by omega) (by have := hb1.size; simp; omega) ?_)
  intro v5 w5 ho5 hg5
  have hb5 := app_below (hb1.alloc hb1.size _) (ho1.alloc _) hg5
  have HO5 : Hid _ := ho5
  clear ho5 hg5
  go_wp2
  go_ret
  exact ⟨v5, rfl, own_as HO5.out HC.out.symm, hb5⟩

end Go.Proofs.Ytocophekfbhfbaa