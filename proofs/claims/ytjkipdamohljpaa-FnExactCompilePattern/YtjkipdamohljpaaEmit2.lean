/-
  Chapter 7: the specification's CompilePattern.
-/
import Derived.Test.YtjkipdamohljpaaEmit1
import Derived.Test.YtjkipdamohljpaaNode5e
namespace Go.Proofs.Ytjkipdamohljpaa
open Go.RowKit
set_option linter.unusedVariables false
set_option linter.unusedSimpArgs false

/-- What a right tree is compiled to. -/
def comp (ns : List Nd) : List In := cod ns (ns.length + 1) 0 (ns.length - 1) ++ [nI 6 0 0]
def cpRes (ns : List Nd) : List In := if nodesFault ns = 0 then comp ns else []

/-- A tree without a fault. -/
theorem tree_of {ns : List Nd} (h : nodesFault ns = 0) : 1 ≤ ns.length ∧ ns.length ≤ 24 ∧ ∃ bs, Beg ns ns.length bs := by
  unfold nodesFault at h
  by_cases h1 : ns.length < 1 ∨ 24 < ns.length
  · rw [if_pos h1] at h; omega
  rw [if_neg h1] at h
  refine ⟨by omega, by omega, ?_⟩
  have go : ∀ (m k : Nat) (bs : List Int), Beg ns k bs → k + m = ns.length → faultGo bs (ns.drop k) = 0 → ∃ bs', Beg ns ns.length bs' := by
    intro m
    induction m with
    | zero => intro k bs hb hk _; exact ⟨bs, by rw [← hk]; exact hb⟩
    | succ m ih =>
      intro k bs hb hk hf
      have hx : ns[k]? = some ns[k] := List.getElem?_eq_getElem (by omega)
      generalize ns[k] = x at hx
      rw [faultGo_at bs hx] at hf
      by_cases c1 : ¬ FormP x
      · rw [if_pos c1] at hf; omega
      rw [if_neg c1] at hf
      by_cases c2 : rangeB x = false
      · rw [if_pos c2] at hf; omega
      rw [if_neg c2] at hf
      by_cases c3 : beg bs x = -1
      · rw [if_pos c3] at hf; omega
      rw [if_neg c3] at hf
      exact ih (k + 1) _ (hb.succ hx (Decidable.not_not.1 c1) (by simpa using c2) c3) (by omega) hf
  exact go ns.length 0 [] (Beg.zero ns) (by omega) (by simpa using h)

theorem cpRes_len (ns : List Nd) : (cpRes ns).length ≤ 100 := by
  unfold cpRes
  split
  · rename_i h
    obtain ⟨h1, h2, bs, hb⟩ := tree_of h
    have := cod_len hb rfl (ns.length + 1) 0 (ns.length - 1) (by omega) (by omega)
    have h3 := hb.bd (Nat.le_refl _) (i := ns.length - 1) (by omega)
    unfold comp
    rw [List.length_append]
    simp only [List.length_cons, List.length_nil]
    omega
  · simp

set_option maxHeartbeats 3200000 in
set_option maxRecDepth 20000 in
theorem l7Compile_any (a : Option Addr) (n ca : Nat) (ns : List Nd) (hf : nodesFault ns = 0) (w : World) (ha : RdR ndE 5 w a n ns) :
    Calls Try.prog 65 #[.slice a n ca] w fun r w' => ∃ v, r = .returned v ∧ OwnR inE 8 91 w' w.heap.size v (comp ns).length (comp ns) ∧ Below w.heap.size w w' := by
  obtain ⟨h1, h2, bs, hb⟩ := tree_of hf
  have hlen := ha.1
  rw [hlen] at hb h1 h2
  have hbd := hb.bd (by omega) (i := n - 1) (by omega)
  have HE0 := l7Emit_any w a n ca ns ha bs hb (n + 1) (n - 1) (.slice none 0 0) [] w (by omega) (by omega) (OwnR.nil _ _ _ _ _) (Below.refl _ _) (by simp only [List.length_nil]; omega)
  simp only [List.nil_append, List.length_nil] at HE0
  have e1 : ((n - 1 : Nat) : Int) = (n : Int) - 1 := by omega
  rw [e1] at HE0
  obtain ⟨R, hR⟩ : ∃ R, R = comp ns := ⟨_, rfl⟩
  have hcl := cod_len hb hlen.symm (n + 1) 0 (n - 1) (by omega) (by omega)
  have hcomp : R = cod ns (n + 1) 0 (n - 1) ++ [nI 6 0 0] := by rw [hR]; unfold comp; rw [hlen]
  rw [← hR]
  generalize cod ns (n + 1) 0 (n - 1) = C at HE0 hcl hcomp
  have hC9 : C.length ≤ 100 := by omega
  have HE : Hid _ := HE0
  have HC : Hid _ := hcomp
  clear HE0 hR hcomp e1 hcl hbd hb hf hlen
  go_enter Try.func65, Try.ntmps65
  go_wp2_with fail
  refine Calls.mono HE.out ?_
  rintro r w1 ⟨v1, rfl, ho1, hb1⟩
  obtain ⟨va, vc, rfl, -, -, -⟩ := ho1.rd inE_len
  go_wp2_with (at_builtin; refine wpList_appIn rfl _ _ rfl w.heap.size _ _ _ rfl (ho1.alloc _) _ _ (nI 6 0 0) rfl (cellsI _ (nI 6 0 0) _) (by omega) (by have := hb1.size; simp; omega) ?_)
  intro v5 w5 ho5 hg5
  have hb5 := app_below (hb1.alloc hb1.size _) (ho1.alloc _) hg5
  have HO5 : Hid _ := ho5
  clear ho5 hg5
  go_wp2
  go_ret
  exact ⟨v5, rfl, own_as HO5.out HC.out.symm, hb5⟩

set_option maxHeartbeats 3200000 in
set_option maxRecDepth 20000 in
theorem specCompilePattern_any (a : Option Addr) (n ca : Nat) (ns : List Nd) (w : World) (ha : RdR ndE 5 w a n ns) (hs : ndSum ns ≤ 1048576) (h1 : n ≤ 1048576) :
    Calls Try.prog 26 #[.slice a n ca] w fun r w' => ∃ v, r = .returned (.agg #[.int .i64 (nodesFault ns), v]) ∧ RowS inE 8 91 w' w.heap.size w'.heap.size v (cpRes ns).length (cpRes ns) ∧ Below w.heap.size w w' := by
  have CF := fun w' h' => l5Fault_any a n ca ns w' h' hs h1
  have B1 : ∀ o, Below w.heap.size w (w.alloc o) := fun o => (Below.refl _ _).alloc (Nat.le_refl _) o
  by_cases hf : nodesFault ns = 0
  case neg =>
    have e0 : cpRes ns = [] := by unfold cpRes; rw [if_neg hf]
    rw [e0]
    generalize nodesFault ns = P at *
    have hf' : (P == 0) = false := by simpa using hf
    have HS : Hid _ := CF
    clear CF e0
    go_enter Try.func26, Try.ntmps26
    go_wp2_with fail
    refine (HS.out _ (ha.below (B1 _))).mono ?_
    rintro r w1 ⟨rfl, hb1⟩
    have d0 : w1.cell? ⟨w.heap.size, 0, none⟩ = some (.int .i64 0) := cell_later hb1 (by simp [go_sem])
    have d1 : w1.cell? ⟨w.heap.size, 1, none⟩ = some (.slice none 0 0) := cell_later hb1 (by simp [go_sem])
    have f0 : w1.frozen? ⟨w.heap.size, 0, none⟩ = false := (hb1.frozen (p := ⟨w.heap.size, 0, none⟩) (by simp)).trans (by simp [go_sem])
    have f1 : w1.frozen? ⟨w.heap.size, 1, none⟩ = false := (hb1.frozen (p := ⟨w.heap.size, 1, none⟩) (by simp)).trans (by simp [go_sem])
    have hb01 := (B1 _).trans (hb1.mono (B1 _).size)
    clear hb1
    go_wp2
    refine bodyPost_ret (v := .agg #[.int .i64 P, .slice none 0 0]) (by simp [results, Try.results26, go_sem, d0, d1]) rfl ⟨_, rfl, RowS.nil _ _ _ _ _ _, ?_⟩
    first | exact (hb01.setCell (Nat.le_refl _) _).setCell (Nat.le_refl _) _ | exact hb01.setCell (Nat.le_refl _) _
  have e0 : cpRes ns = comp ns := by unfold cpRes; rw [if_pos hf]
  rw [e0]
  have CC := fun w' h' => l7Compile_any a n ca ns hf w' h'
  rw [hf] at CF ⊢
  generalize comp ns = L at CC ⊢
  have HS : Hid _ := CF
  have HC : Hid _ := CC
  clear CF CC e0 hf
  go_enter Try.func26, Try.ntmps26
  go_wp2_with fail
  refine (HS.out _ (ha.below (B1 _))).mono ?_
  rintro r w1 ⟨rfl, hb1⟩
  have d0 : w1.cell? ⟨w.heap.size, 0, none⟩ = some (.int .i64 0) := cell_later hb1 (by simp [go_sem])
  have d1 : w1.cell? ⟨w.heap.size, 1, none⟩ = some (.slice none 0 0) := cell_later hb1 (by simp [go_sem])
  have f0 : w1.frozen? ⟨w.heap.size, 0, none⟩ = false := (hb1.frozen (p := ⟨w.heap.size, 0, none⟩) (by simp)).trans (by simp [go_sem])
  have f1 : w1.frozen? ⟨w.heap.size, 1, none⟩ = false := (hb1.frozen (p := ⟨w.heap.size, 1, none⟩) (by simp)).trans (by simp [go_sem])
  have z1 : w.heap.size < w1.heap.size := by have := hb1.size; simp at this; omega
  have hb01 := (B1 _).trans (hb1.mono (B1 _).size)
  clear hb1
  go_wp2_with fail
  refine (HC.out _ (ha.below hb01)).mono ?_
  rintro r w2 ⟨v, rfl, ho2, hb2⟩
  replace d0 := cell_later hb2 d0
  replace d1 := cell_later hb2 d1
  replace f0 : w2.frozen? ⟨w.heap.size, 0, none⟩ = false := (hb2.frozen (p := ⟨w.heap.size, 0, none⟩) (by exact z1)).trans f0
  replace f1 : w2.frozen? ⟨w.heap.size, 1, none⟩ = false := (hb2.frozen (p := ⟨w.heap.size, 1, none⟩) (by exact z1)).trans f1
  have hb02 := hb01.trans (hb2.mono hb01.size)
  have hz2 : w1.heap.size ≤ w2.heap.size := hb2.size
  obtain ⟨va, vc, hv, -, -, -⟩ := ho2.rd inE_len
  subst hv
  clear hb2
  go_wp2
  have S : ∀ (W : World) (i : Nat) (u : Value), RowS inE 8 91 W w1.heap.size w2.heap.size (.slice va L.length vc) L.length L → RowS inE 8 91 (W.setCell ⟨w.heap.size, i, none⟩ u) w1.heap.size w2.heap.size (.slice va L.length vc) L.length L := fun W i u h => h.chg (Chg.one (set_grown W w.heap.size i u)) (.inr (by omega))
  refine bodyPost_ret (v := .agg #[.int .i64 0, .slice va L.length vc]) (by simp [results, Try.results26, go_sem, d0, d1]) rfl ⟨_, rfl, ?_, ?_⟩
  · refine RowS.mono (S _ _ _ (S _ _ _ (RowS.of ho2))) (by omega) (by simp [World.setCell])
  · exact (hb02.setCell (Nat.le_refl _) _).setCell (Nat.le_refl _) _
end Go.Proofs.Ytjkipdamohljpaa
