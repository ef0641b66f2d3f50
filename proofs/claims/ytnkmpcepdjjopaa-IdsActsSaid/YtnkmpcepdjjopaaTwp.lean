/-
  A region that draws its order, what is held in it until a certain operation has come up, which waits for what is taken first over others. No program is named here.
-/
import Derived.Test.YtnkmpcepdjjopaaTwo
namespace Go.Proofs.Ytnkmpcepdjjopaa
set_option linter.unusedSimpArgs false
set_option linter.unusedVariables false
open Go.RowKit

section
variable {P : Program} {ops : Array Oper} {Q : Exit → Act → World → Prop} {md : Region.Mode} {S : World → Prop} {k : Nat}
theorem wpTwo_firstP {i : Nat} {oi : Oper} {v : Value} {pth : List Nat} (hi : ops[i]? = some oi) (hpe : ∀ m ∈ pth, ∀ om, ops[m]? = some om → ∃ e ∈ om.after, Region.binds md e = true ∧ (e.on = i ∨ e.on ∈ pth)) (hkp : k ∈ pth) (hsel : ∀ (j : Nat) (o : Oper) cs b, ops[j]? = some o → o.op ≠ .select cs b)
    (hQ : ∀ c a w, Q (.panic c) (a.put oi.dst v) w → Q (.panic c) a w) :
    ∀ (fuel : Nat) (listed : Array Bool) (a : Act) (w : World),
      (∀ j oj, ops[j]? = some oj → j ≠ i → listed.getD j true = false → (∀ e ∈ oj.after, Region.binds md e = true → e.on ≠ i) → oi.apart ops oj = true) →
      i ∈ Region.ready md ops listed → (∀ m ∈ pth, listed.getD m true = false) → i ∉ pth → YieldsIf P ops S oi v a → S w →
      wpTwo P md ops Q S k fuel (listed.setIfInBounds i true) (a.put oi.dst v) w → wpTwo P md ops Q S k (fuel + 1) listed a w := by
  intro fuel
  induction fuel with
  | zero =>
    intro listed a w _ hr _ _ hy hS H
    refine ⟨fun h => (by rw [h] at hr; cases hr), fun j hj => ?_⟩
    by_cases hji : j = i
    · subst hji; exact hy.wpOp hi hS ⟨.inr hS, H⟩
    · have := ready_mono hj hji
      rw [H.1] at this
      cases this
  | succ fuel ih =>
    intro listed a w hfree hr hlk hik hy hS H
    refine ⟨fun h => (by rw [h] at hr; cases hr), fun j hj => ?_⟩
    by_cases hji : j = i
    · subst hji; exact hy.wpOp hi hS ⟨.inr hS, H⟩
    · have h1 := H.2 j (ready_mono hj hji)
      obtain ⟨hjun, oj, hoj, hall⟩ := mem_ready.1 hj
      have hnot : ∀ e ∈ oj.after, Region.binds md e = true → e.on ≠ i := fun e he hb heq => by
        have h1 := hall e he hb
        have h0 := (mem_ready.1 hr).1
        rw [heq] at h1
        rcases Nat.lt_or_ge i listed.size with h' | h'
        · simp [h'] at h0 h1; rw [h0] at h1; cases h1
        · simp [Array.getElem?_eq_none h'] at h1
      have hjp : ∀ m ∈ pth, j ≠ m := fun m hm e => by
        subst e
        obtain ⟨e, he, hb, hon⟩ := hpe j hm oj hoj
        rcases hon with hon | hon
        · exact hnot e he hb hon
        · have h1 := hall e he hb
          have h0 := hlk _ hon
          rcases Nat.lt_or_ge e.on listed.size with h' | h'
          · simp [h'] at h0 h1; rw [h0] at h1; cases h1
          · simp [Array.getElem?_eq_none h'] at h1
      have hjk := hjp k hkp
      have hik2 : i ≠ k := fun e => hik (e ▸ hkp)
      have hlk1 : ∀ m ∈ pth, (listed.setIfInBounds j true).getD m true = false := fun m hm => by rw [getD_set_ne true (hjp m hm)]; exact hlk m hm
      have hlk2 : ((listed.setIfInBounds i true).setIfInBounds j true).getD k true = false := by rw [getD_set_ne true hjk, getD_set_ne true hik2]; exact hlk k hkp
      have h2 := wpOp_putIf hoj (hfree j oj hoj hji hjun hnot) (fun cs b => hsel i oi cs b hi) (fun cs b => hsel j oj cs b hoj) hQ hy h1
      have hfree' : ∀ m om, ops[m]? = some om → m ≠ i → (listed.setIfInBounds j true).getD m true = false →
          (∀ e ∈ om.after, Region.binds md e = true → e.on ≠ i) → oi.apart ops om = true := fun m om hm hmi hun hno => by
        refine hfree m om hm hmi ?_ hno
        by_cases hjm : j = m
        · subst hjm; exact hjun
        · rw [getD_set_ne true hjm] at hun; exact hun
      refine wpOp_mono (fun a' w' h3 => ?_) h2
      have hS' : S w' := by
        rcases h3.2.1 with h | h
        · rw [hlk2] at h; cases h
        · exact h
      refine ⟨.inr hS', ih (listed.setIfInBounds j true) a' w' hfree' (ready_mono hr (Ne.symm hji)) hlk1 hik h3.1 hS' ?_⟩
      rw [Array.setIfInBounds_comm _ _ hji]
      exact h3.2.2
/-- Number i is taken first; number k waits for it, over the others of pth. -/
theorem wpTwo_takeP {i : Nat} {oi : Oper} {v : Value} {fuel : Nat} {listed : Array Bool} {a : Act} {w : World} {pth : List Nat} (hi : ops[i]? = some oi)
    (hpe : pth.all (fun m => match ops[m]? with | some om => om.after.any (fun e => Region.binds md e && (e.on == i || pth.contains e.on)) | none => false) = true) (hkp : pth.contains k = true)
    (hs : Region.noSelect ops = true) (hf : Region.free md ops listed i = true) (hr : (Region.ready md ops listed).contains i = true) (hl : pth.all (fun m => listed.getD m true == false) = true) (hik : pth.contains i = false)
    (hQ : ∀ c a w, Q (.panic c) (a.put oi.dst v) w → Q (.panic c) a w) (hy : YieldsIf P ops S oi v a) (hS : S w)
    (h : wpTwo P md ops Q S k fuel (listed.setIfInBounds i true) (a.put oi.dst v) w) : wpTwo P md ops Q S k (fuel + 1) listed a w := by
  refine wpTwo_firstP (pth := pth) hi (fun m hm om ho => ?_) (by simpa using hkp) (Region.noSelect_spec hs) hQ fuel listed a w (Region.free_spec hi hf) (by simpa using hr) (fun m hm => ?_) (by simpa using hik) hy hS h
  · have h1 := List.all_eq_true.1 hpe m hm
    rw [ho] at h1
    simp only at h1
    rw [Array.any_eq_true'] at h1
    obtain ⟨e, he, hb⟩ := h1
    rw [Bool.and_eq_true, Bool.or_eq_true, beq_iff_eq] at hb
    exact ⟨e, he, hb.1, hb.2.imp id fun h => by simpa using h⟩
  · have h1 := List.all_eq_true.1 hl m hm
    simpa using h1
end
end Go.Proofs.Ytnkmpcepdjjopaa
