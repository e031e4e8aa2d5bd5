/-
  A region that draws its order, whose operations only read but for the last one, which waits for all others: one walk in the order of the text serves every order, also within a round.
-/
import Derived.Sort.BigQuietIn
import Derived.OwnWalkIn
namespace Nt
open Go
/-- the last one idle -/
def idle (o : Oper) : Oper := { o with op := .move (.const (.bool true)), dst := none }
/-- what is asked of the operations' form -/
def lastOK (front : List Oper) (oL : Oper) : Bool :=
  (front.all fun o => o.guard.isNone && (match o.op with | .defer _ => false | _ => true)) && oL.guard.isNone &&
  ((List.range front.length).all fun j => oL.after.any fun e => e.on == j && Region.binds .any e) &&
  ((List.range (front.length + 1)).all fun i => match (front ++ [oL])[i]? with | none => true | some o => o.after.all fun e => decide (e.on < i))
section
variable {F : Fence} {n : Nat} {P : Program} {front : List Oper} {oL : Oper} {Q : Exit → Act → World → Prop} {C : World → Prop}
theorem last_guard (h : lastOK front oL = true) : ∀ o ∈ front, o.guard = none := by
  unfold lastOK at h
  simp only [Bool.and_eq_true, List.all_eq_true, Option.isNone_iff_eq_none] at h
  exact fun o ho => (h.1.1.1 o ho).1
theorem last_guardL (h : lastOK front oL = true) : oL.guard = none := by
  unfold lastOK at h
  simp only [Bool.and_eq_true, List.all_eq_true, Option.isNone_iff_eq_none] at h
  exact h.1.1.2
theorem last_defer (h : lastOK front oL = true) : ∀ o ∈ front, ∀ c, o.op ≠ .defer c := by
  unfold lastOK at h
  simp only [Bool.and_eq_true, List.all_eq_true, Option.isNone_iff_eq_none] at h
  intro o ho c e
  have := (h.1.1.1 o ho).2
  rw [e] at this
  cases this
theorem last_all (h : lastOK front oL = true) : ∀ j, j < front.length → ∃ e ∈ oL.after, Region.binds .any e = true ∧ e.on = j := by
  unfold lastOK at h
  simp only [Bool.and_eq_true, List.all_eq_true] at h
  intro j hj
  have := h.1.2 j (List.mem_range.2 hj)
  rw [Array.any_eq_true] at this
  obtain ⟨i, hi, hq⟩ := this
  simp only [Bool.and_eq_true, beq_iff_eq] at hq
  exact ⟨oL.after[i], Array.getElem_mem hi, hq.2, hq.1⟩
theorem last_less (h : lastOK front oL = true) : ∀ (i : Nat) (o : Oper), (front ++ [oL])[i]? = some o → ∀ e ∈ o.after, e.on < i := by
  unfold lastOK at h
  simp only [Bool.and_eq_true, List.all_eq_true] at h
  intro i o hi e he
  have hlt : i < front.length + 1 := by
    have := (List.getElem?_eq_some_iff.1 hi).1
    simpa using this
  have := h.2 i (List.mem_range.2 hlt)
  rw [hi] at this
  have this : (o.after.all fun e => decide (e.on < i)) = true := this
  rw [Array.all_eq_true_iff_forall_mem] at this
  simpa using this e he
theorem least_one {p : Nat → Prop} : ∀ n, p n → ∃ i, p i ∧ ∀ j, j < i → ¬ p j := by
  intro n
  induction n using Nat.strongRecOn with
  | _ n ih =>
    intro h
    by_cases hx : ∃ j, j < n ∧ p j
    · obtain ⟨j, hj, hp⟩ := hx
      exact ih j hj hp
    · exact ⟨n, h, fun j hj hp => hx ⟨j, hj, hp⟩⟩
theorem idle_guard {o : Oper} (h : o.guard = none) : (idle o).guard = none := h
theorem wanted_none {o : Oper} (h : o.guard = none) (y : Array Value → Array Value) (ops : Array Oper) (a : Act) : Region.wanted o (yielded ops a.tmps) = true := by
  unfold Region.wanted
  rw [h]
theorem front_at {i : Nat} {o : Oper} (h : (front ++ [oL])[i]? = some o) : (i < front.length ∧ o ∈ front ∧ (front ++ [idle oL])[i]? = some o) ∨ (i = front.length ∧ o = oL ∧ (front ++ [idle oL])[i]? = some (idle oL)) := by
  by_cases hi : i < front.length
  · rw [List.getElem?_append_left hi] at h
    exact .inl ⟨hi, List.mem_of_getElem? h, by rw [List.getElem?_append_left hi]; exact h⟩
  · have hlt := (List.getElem?_eq_some_iff.1 h).1
    simp at hlt
    obtain rfl : i = front.length := by omega
    rw [List.getElem?_append_right (Nat.le_refl _)] at h
    simp at h
    exact .inr ⟨rfl, h.symm, by rw [List.getElem?_append_right (Nat.le_refl _)]; simp⟩
theorem any_last (hk : lastOK front oL = true) : ∀ (fuel : Nat) (listed : Array Bool) (a : Act) (w : World), C w → listed.size = front.length + 1 → listed.toList.count false = fuel → listed.getD front.length true = false →
    wpAnyQIn F n P .any (front ++ [idle oL]).toArray C (fun a' => ∀ w', C w' → wpListIn F n P (front ++ [oL]).toArray Q [oL] a' w') fuel listed a → wpAnyIn F n P .any (front ++ [oL]).toArray Q fuel listed a w
  | 0, listed, a, w, _, hs, hc, hu, _ => by
    exfalso
    rw [List.count_eq_zero] at hc
    apply hc
    have hlt : front.length < listed.size := by omega
    rw [Array.getD_eq_getD_getElem?, Array.getElem?_eq_getElem hlt] at hu
    have hu : listed[front.length] = false := hu
    rw [← hu]
    exact Array.getElem_mem_toList hlt
  | fuel + 1, listed, a, w, hw, hs, hc, hu, hq => by
    have hsame : ∀ (i : Nat) (o : Oper), (front ++ [oL]).toArray[i]? = some o → ∃ o', (front ++ [idle oL]).toArray[i]? = some o' ∧ o'.after = o.after := by
      intro i o ho
      have ho : (front ++ [oL])[i]? = some o := by simpa using ho
      rcases front_at ho with ⟨_, _, h⟩ | ⟨_, rfl, h⟩
      · exact ⟨o, by simpa using h, rfl⟩
      · exact ⟨idle o, by simpa using h, rfl⟩
    have hrd : ∀ i, i ∈ Region.ready .any (front ++ [oL]).toArray listed → i ∈ Region.ready .any (front ++ [idle oL]).toArray listed := by
      intro i hi
      obtain ⟨h1, o, h2, h3⟩ := mem_ready.1 hi
      obtain ⟨o', h4, h5⟩ := hsame i o h2
      exact mem_ready.2 ⟨h1, o', h4, by rw [h5]; exact h3⟩
    refine ⟨fun h0 => ?_, fun i hi => ?_⟩
    · exfalso
      -- the least one that has not come up is ready
      obtain ⟨i, hi, hmin⟩ : ∃ i, (i ≤ front.length ∧ listed.getD i true = false) ∧ ∀ j, j < i → ¬ (j ≤ front.length ∧ listed.getD j true = false) := by
        have hex : ∃ i, i ≤ front.length ∧ listed.getD i true = false := ⟨front.length, Nat.le_refl _, hu⟩
        obtain ⟨i, hi⟩ := hex
        exact least_one i hi
      have hlt : i < (front ++ [oL]).length := by simp; omega
      have ho : (front ++ [oL])[i]? = some (front ++ [oL])[i] := List.getElem?_eq_getElem hlt
      have : i ∈ Region.ready .any (front ++ [oL]).toArray listed := mem_ready.2 ⟨hi.2, (front ++ [oL])[i], by rw [List.getElem?_toArray]; exact ho, fun e he _ => by
        have h1 := last_less hk i _ ho e he
        have h2 := hmin e.on h1
        have hlt2 : e.on < listed.size := by omega
        rw [Array.getD_eq_getD_getElem?, Array.getElem?_eq_getElem hlt2] at h2 ⊢
        show listed[e.on] = true
        cases hv : listed[e.on] with
        | true => rfl
        | false => exact absurd ⟨by omega, by show listed[e.on] = false; exact hv⟩ h2⟩
      rw [h0] at this
      cases this
    · have hq' := hq.2 i (hrd i hi)
      obtain ⟨h1, o, h2, h3⟩ := mem_ready.1 hi
      have h2' : (front ++ [oL])[i]? = some o := by simpa using h2
      have hil : i < listed.size := by
        have := (List.getElem?_eq_some_iff.1 h2').1
        simp at this
        omega
      rcases front_at h2' with ⟨hif, hof, h4⟩ | ⟨rfl, rfl, h4⟩
      · have h4' : (front ++ [idle oL]).toArray[i]? = some o := by simpa using h4
        unfold qOpIn at hq'
        simp only [h4'] at hq'
        unfold wpOpIn
        simp only [h2]
        rw [if_pos (wanted_none (last_guard hk o hof) id _ a)] at hq' ⊢
        obtain ⟨ha, v, hv, hn⟩ := hq'
        have ih := fun a' w' (hw' : C w') => any_last hk fuel (listed.setIfInBounds i true) a' w' hw' (by simpa using hs) (by
          have hv : listed[i] = false := by
            rw [Array.getD_eq_getD_getElem?, Array.getElem?_eq_getElem hil] at h1
            exact h1
          have e1 : listed.toList[i]'(by simpa using hil) = false := by simpa using hv
          rw [Array.toList_setIfInBounds, List.count_set (h := by simpa using hil), e1, hc]
          show fuel + 1 - 1 + 0 = fuel
          omega) (by
          rw [Array.getD_eq_getD_getElem?, Array.getElem?_setIfInBounds_ne (by omega), ← Array.getD_eq_getD_getElem?]
          exact hu)
        have hr := hv w hw
        unfold Oper.quietAtIn at hr
        unfold Oper.wpIn
        refine ⟨ha w hw, ?_⟩
        rw [Oper.semAt_plain F _ _ (last_defer hk o hof)]
        generalize (execOp a.eval o).run P w = r at *
        cases r with
        | ok x w' =>
          cases x <;> simp only [Oper.quietUponIn] at hr
          case value u =>
            obtain ⟨rfl, rfl⟩ := hr
            exact ih _ _ hw hn
          case skip =>
            obtain ⟨rfl, rfl⟩ := hr
            exact ih _ _ hw hn
          case enter f args =>
            obtain ⟨rfl, hd, hcall⟩ := hr
            refine ⟨hd, CallsIn.mono hcall fun e w'' he => ?_⟩
            obtain ⟨rfl, hw''⟩ := he
            exact ih _ _ hw'' hn
        | halt x w' => cases hr
      · have h4' : (front ++ [idle o]).toArray[front.length]? = some (idle o) := by rw [List.getElem?_toArray]; exact h4
        unfold qOpIn at hq'
        simp only [h4'] at hq'
        rw [if_pos (wanted_none (o := idle o) (idle_guard (last_guardL hk)) id _ a)] at hq'
        obtain ⟨_, v, _, hn⟩ := hq'
        have hn : wpAnyQIn F n P .any (front ++ [idle o]).toArray C _ fuel (listed.setIfInBounds front.length true) a := hn
        have hall : ∀ j, j < front.length + 1 → (listed.setIfInBounds front.length true).getD j true = true := by
          intro j hj
          by_cases e : j = front.length
          · subst e
            rw [Array.getD_eq_getD_getElem?, Array.getElem?_setIfInBounds_self_of_lt hil]
            rfl
          · obtain ⟨d, hd, hb, rfl⟩ := last_all hk j (by omega)
            have := h3 d hd hb
            rw [Array.getD_eq_getD_getElem?, Array.getElem?_setIfInBounds_ne (by omega)]
            have hdl : d.on < listed.size := by omega
            rw [Array.getD_eq_getD_getElem?, Array.getElem?_eq_getElem hdl] at this
            rw [Array.getElem?_eq_getElem hdl]
            exact this
        have hnone : ∀ (ops : Array Oper), ops.size = front.length + 1 → Region.ready .any ops (listed.setIfInBounds front.length true) = [] := by
          intro ops hsz
          rw [List.eq_nil_iff_forall_not_mem]
          intro j hj
          obtain ⟨q1, o2, q2, _⟩ := mem_ready.1 hj
          have := (Array.getElem?_eq_some_iff.1 q2).1
          rw [hall j (by omega)] at q1
          cases q1
        have hQf : ∀ w', C w' → wpListIn F n P (front ++ [o]).toArray Q [o] a w' := by
          cases fuel with
          | zero => exact hn.2
          | succ fuel => exact hn.1 (hnone _ (by simp))
        have := hQf w hw
        unfold wpListIn at this
        unfold wpOpIn
        simp only [h2]
        rw [if_pos (wanted_none (last_guardL hk) id _ a)] at this ⊢
        exact Oper.wpIn_mono (fun a' w' h => wpAnyIn_done (hnone _ (by simp)) h fuel) this
theorem region_last {id : Nat} {a : Act} {w : World} (hk : lastOK front oL = true) (hm : P.follows .mixedOrders = true) (hB : Region.lexB .any (front ++ [idle oL]).toArray = true)
    (h : wpQuietIn F n P (front ++ [idle oL]).toArray (fun w' => ∃ m, w' = w.drewN m) (fun a' => ∀ w', (∃ m, w' = w.drewN m) → wpListIn F n P (front ++ [oL]).toArray Q [oL] a' w') (front ++ [idle oL]) a) :
    (Code.region id (front ++ [oL]).toArray true).wpIn F n P Q a w := by
  refine wpIn_region_any hm ?_
  simp only [Region.lexB, Bool.and_eq_true] at hB
  have h1 := wpAnyQIn_lex (F := F) (n := n) (C := fun w' => ∃ m, w' = w.drewN m) (md := .any) hB.1 (front ++ [idle oL]) 0 (Array.replicate (front.length + 1) false) a (by simp) (by simpa using hB.2) h
  have h2 := any_last (F := F) (n := n) (P := P) (Q := Q) (C := fun w' => ∃ m, w' = w.drewN m) hk (front.length + 1) (Array.replicate (front.length + 1) false) a { w with drawn := w.drawn + 1 } ⟨1, rfl⟩ (by simp) (by simp) (by simp) (by simpa using h1)
  simpa using h2
theorem region_lastL {l : List Oper} {id : Nat} {a : Act} {w : World} (hne : l ≠ []) (hk : lastOK l.dropLast (l.getLast hne) = true) (hm : P.follows .mixedOrders = true) (hB : Region.lexB .any (l.dropLast ++ [idle (l.getLast hne)]).toArray = true)
    (h : wpQuietIn F n P (l.dropLast ++ [idle (l.getLast hne)]).toArray (fun w' => ∃ m, w' = w.drewN m) (fun a' => ∀ w', (∃ m, w' = w.drewN m) → wpListIn F n P l.toArray Q [l.getLast hne] a' w') (l.dropLast ++ [idle (l.getLast hne)]) a) :
    (Code.region id l.toArray true).wpIn F n P Q a w := by
  have e : l.dropLast ++ [l.getLast hne] = l := List.dropLast_concat_getLast hne
  have := region_last (F := F) (n := n) (P := P) (Q := Q) (id := id) (a := a) (w := w) hk hm hB (by rw [e]; exact h)
  rwa [e] at this
end
end Nt
