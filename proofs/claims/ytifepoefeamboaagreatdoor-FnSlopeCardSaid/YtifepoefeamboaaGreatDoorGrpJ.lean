/-
  SpecUnit SpecGrad GradSame in one text.
-/
import Derived.Test.YtifepoefeamboaaGreatDoorJoE
import Derived.Test.YtifepoefeamboaaGreatDoorGrpI
import Derived.Test.YtifepoefeamboaaGreatDoorJoF
namespace Nt
open Go Go.RowKit
theorem getD_set3 (rs : List R3) (k i : Nat) (r : R3) (hk : k < rs.length) : (rs.set k r).getD i r3 = if i = k then r else rs.getD i r3 := by
  simp only [List.getD, List.getElem?_set]
  by_cases h : k = i
  · subst h; simp [hk]
  · rw [if_neg h, if_neg (fun e => h e.symm)]
/-- an element put into a row of the call's own -/
theorem row_put {w : World} {base g tr n cap : Nat} {L : List EV} {r : EV} {k : Nat} (ho : w.ownsRow base tr 3 (.slice (some ⟨g, 0, none⟩) n cap) n (flat L)) (hP : PartsRd w (some ⟨g, 0, none⟩) L) (hr : RdR w (fun b => some (⟨g, 0, none⟩ : Addr) ≠ some ⟨b, 0, none⟩) r.xs r.ys r.A r.ca r.B r.cb) (hk : k < n) :
    RdS (((w.setCell ⟨g, k * 3, none⟩ (.bool r.neg)).setCell ⟨g, k * 3 + 1, none⟩ (.slice r.A r.xs.length r.ca)).setCell ⟨g, k * 3 + 2, none⟩ (.slice r.B r.ys.length r.cb)) (fun _ => True) (some ⟨g, 0, none⟩) n cap ((L.map EV.v3).set k r.v3) ∧ w.grownBy (((w.setCell ⟨g, k * 3, none⟩ (.bool r.neg)).setCell ⟨g, k * 3 + 1, none⟩ (.slice r.A r.xs.length r.ca)).setCell ⟨g, k * 3 + 2, none⟩ (.slice r.B r.ys.length r.cb)) (some g) := by
  have hl : L.length = n := by have h1 := ho.1; rw [flat_len] at h1; omega
  have h1 := ho.stored (k * 3) (.bool r.neg)
  have h2 := h1.1.stored (k * 3 + 1) (.slice r.A r.xs.length r.ca)
  have h3 := h2.1.stored (k * 3 + 2) (.slice r.B r.ys.length r.cb)
  have hg : w.grownBy (((w.setCell ⟨g, k * 3, none⟩ (.bool r.neg)).setCell ⟨g, k * 3 + 1, none⟩ (.slice r.A r.xs.length r.ca)).setCell ⟨g, k * 3 + 2, none⟩ (.slice r.B r.ys.length r.cb)) (some g) := (h1.2.trans h2.2).trans h3.2
  obtain ⟨g', e, _, hlt, hnc⟩ := row_at ho (by omega)
  injection e with e
  injection e with e
  subst e
  refine ⟨⟨by rw [List.length_set, List.length_map, hl], hnc, fun h => (by cases h), fun hn => ⟨g, 0, rfl, trivial, Nat.lt_of_lt_of_le hlt hg.size, fun i hi => ?_⟩⟩, hg⟩
  have keep : ∀ {xs ys : List Int} {A B : Option Addr} {ca cb : Nat}, RdR w (fun b => some (⟨g, 0, none⟩ : Addr) ≠ some ⟨b, 0, none⟩) xs ys A ca B cb → RdR (((w.setCell ⟨g, k * 3, none⟩ (.bool r.neg)).setCell ⟨g, k * 3 + 1, none⟩ (.slice r.A r.xs.length r.ca)).setCell ⟨g, k * 3 + 2, none⟩ (.slice r.B r.ys.length r.cb)) (fun _ => True) xs ys A ca B cb := fun h => (h.keep hg.size fun b hb hl => hg.block b hl (fun e => hb (by injection e with e; subst e; rfl))).mono fun _ _ _ => trivial
  rw [Nat.zero_add, getD_set3 _ _ _ _ (by rw [List.length_map]; omega), getD_map]
  have hfl := flat_len L
  have hc := fun j (hj : j < n * 3) => h3.1.cellAt j hj
  simp only [List.getElem?_set, List.length_set] at hc
  by_cases e : i = k
  · subst e
    rw [if_pos rfl]
    refine ⟨_, _, _, _, (hc (i * 3) (by omega)).trans ?_, (hc (i * 3 + 1) (by omega)).trans ?_, (hc (i * 3 + 2) (by omega)).trans ?_, keep hr⟩
    · rw [if_neg (by omega), if_neg (by omega), if_pos rfl, if_pos (by omega)]; rfl
    · rw [if_neg (by omega), if_pos rfl, if_pos (by omega)]; rfl
    · rw [if_pos rfl, if_pos (by omega)]; rfl
  · rw [if_neg e]
    obtain ⟨f0, f1, f2⟩ := flat_get L i (by omega)
    refine ⟨_, _, _, _, (hc (i * 3) (by omega)).trans ?_, (hc (i * 3 + 1) (by omega)).trans ?_, (hc (i * 3 + 2) (by omega)).trans ?_, keep (hP i (by omega))⟩
    · rw [if_neg (by omega), if_neg (by omega), if_neg (by omega)]; exact f0
    · rw [if_neg (by omega), if_neg (by omega), if_neg (by omega)]; exact f1
    · rw [if_neg (by omega), if_neg (by omega), if_neg (by omega)]; exact f2
theorem unitL_set (n k : Nat) : ((noughts n).map rat3).set k (rat3 1) = (unitL n k).map rat3 := by
  apply List.ext_getElem
  · simp [unitL]
  · intro i h1 h2
    simp only [List.length_set, List.length_map, List.length_replicate] at h1
    simp only [List.getElem_set, List.getElem_map, List.getElem_replicate, unitL, List.getElem_range]
    by_cases e : k = i
    · subst e; simp
    · rw [if_neg e, if_neg (fun h => e h.symm)]
end Nt
namespace Go.Proofs.YtifepoefeamboaaGreatDoor
open Go Go.RowKit Nt

set_option maxRecDepth 20000 in
set_option maxHeartbeats 3200000 in
/-- a list of noughts in a row of the call's own -/
theorem l06Zeros_own (n : Nat) (hn : n ≤ 4096) (w : World) :
    Calls Tryz.prog 61 #[.int .i64 n] w fun e w' => ∃ V d L, e = .returned (.slice V n d) ∧ L.map EV.v3 = (noughts n).map rat3 ∧ w'.ownsRow w.heap.size 31 3 (.slice V n d) n (flat L) ∧ PartsRd w' V L ∧ Free w' V ∧ Below w.heap.size w w' := by
  obtain ⟨i0, hi0, hz0, hz1, hz2⟩ := info_parts infoRat
  go_enter Tryz.func61, Tryz.ntmps61
  go_wp2
  go_loopw [3, 4] (fun v i wr => ∃ (k : Nat) (V : Option Addr) (cv : Nat) (L : List EV), k ≤ n ∧ i = .int .i64 k ∧ v = .slice V k cv ∧ Hid (L.map EV.v3 = (noughts k).map rat3) ∧ Hid (wr.ownsRow w.heap.size 31 3 (.slice V k cv) k (flat L)) ∧ Hid (PartsRd wr V L) ∧ Hid (Free wr V) ∧ Hid (Below w.heap.size w wr)) (fun _ i _ => n - (intOf i).toNat)
  case atStart => exact ⟨0, _, 0, [], Nat.zero_le _, rfl, rfl, Lib.hid rfl, Lib.hid (emptyRow _ _ _), Lib.hid (fun i hi => by simp at hi), Lib.hid (emptyFree _ _), Lib.hid (below1 _ _)⟩
  case round =>
    obtain ⟨k, V, cv, L, hk, rfl, rfl, HV, HO, HP, HF, HB⟩ := hrel
    by_cases hlt : k < n
    · have hkN : (k : Int) < n := by omega
      go_wp2_with fail
      refine (op_int 0 (by decide) (by decide) wr).mono ?_
      rintro e w1 ⟨A1, c1, B1, d1, rfl, o1, b1⟩
      have HO1 := Lib.hid (own_keep3 HO.out b1)
      have HF1 := Lib.hid (HF.out.on b1 (own_ltF HO.out))
      have HP1 : Hid (PartsRd w1 V (L ++ [EV.mk (isNeg ((0 : Int) : Rat)) A1 c1 B1 d1 (D (nu ((0 : Int) : Rat))) (D ((0 : Int) : Rat).den)])) := (HP.out.on b1).snoc (o1.beside HF1.out)
      have HV1 : Hid ((L ++ [EV.mk (isNeg ((0 : Int) : Rat)) A1 c1 B1 d1 (D (nu ((0 : Int) : Rat))) (D ((0 : Int) : Rat).den)]).map EV.v3 = (noughts (k + 1)).map rat3) := by
        show _ = _
        rw [List.map_append, HV.out, noughts_snoc, List.map_append]
        rfl
      have HB1 := Lib.hid (below_on HB.out b1)
      have hs1 := HB1.out.size
      clear o1 b1 HP HV HO HF HB
      generalize ((0 : Int) : Rat) = p at *
      go_wp2_with (at_builtin; refine wpList_append_free _ rfl _ _ 27 rfl w.heap.size 31 i0 _ 3 56 Tryz.underlying27 hi0 hz0 hz1 hz2 rfl (by decide) (by decide) _ k _ _ rfl (HO1.out.alloc _) ⟨w1.heap.size, 0, none⟩ 1 1 [.bool (isNeg p), .slice A1 (D (nu p)).length c1, .slice B1 (D p.den).length d1] rfl rfl (cells3 _ _ _ _ _ _ _ _ _) (one3 _ _ _ _ _ _ _) (by simp [noInt]) (by decide) (by unfold maxLen; omega) (by omega) (by simp; omega) (HF1.out.on (below1 _ _) (own_ltF HO1.out)) _ rfl ?_; intro g' cv' w2 hown hgrow hat hfree)
      have hlit := below1 w1 (.cells #[.bool (isNeg p), .slice A1 (D (nu p)).length c1, .slice B1 (D p.den).length d1] 31)
      have HO2 : Hid (w2.ownsRow w.heap.size 31 3 (.slice (some ⟨g', 0, none⟩) (k + 1) cv') (k + 1) (flat (L ++ [EV.mk (isNeg p) A1 c1 B1 d1 (D (nu p)) (D p.den)]))) := by rw [flat_snoc]; exact hown
      have HP2 : Hid (PartsRd w2 (some ⟨g', 0, none⟩) (L ++ [EV.mk (isNeg p) A1 c1 B1 d1 (D (nu p)) (D p.den)])) := (HP1.out.on hlit).appended (HO1.out.alloc _) hgrow hat
      have HF2 := Lib.hid hfree
      have HB2 := Lib.hid ((below_on HB1.out hlit).trans (rowed3_below (HO1.out.alloc _) (by simp; omega) hgrow))
      clear hown hgrow hat hfree hlit HP1 HO1 HF1 HB1
      go_wp2
      go_roundw
      case rel => exact ⟨k + 1, _, _, _, by omega, by go_num, rfl, HV1, HO2, HP2, HF2, HB2⟩
      case measure => simp [intOf]; omega
    · obtain rfl : k = n := by omega
      go_wp2
      exact bodyPost_ret (results_tmp rfl _ _ _) rfl ⟨V, cv, L, rfl, HV.out, HO.out, HP.out, HF.out, HB.out⟩


set_option maxRecDepth 20000 in
set_option maxHeartbeats 3200000 in
theorem l06Unit_any (n k : Nat) (hk : k < n) (hn : n ≤ 4096) (w : World) :
    Calls Tryz.prog 64 #[.int .i64 n, .int .i64 k] w fun e w' => ∃ V d, e = .returned (.slice V n d) ∧ RdS w' (fun _ => True) V n d ((unitL n k).map rat3) ∧ Below w.heap.size w w' := by
  have hkn : (k : Int) < n := by omega
  go_enter Tryz.func64, Tryz.ntmps64
  go_wp2_with fail
  refine (l06Zeros_own n hn w).mono ?_
  rintro e w1 ⟨V, d, L, rfl, hv, ho, hp, hf, b1⟩
  obtain ⟨g, rfl, hg0, hlt, _⟩ := row_at ho (by omega)
  have hll : L.length = n := by have h1 := ho.1; rw [flat_len] at h1; omega
  have HV := Lib.hid hv
  have HO := Lib.hid ho
  have HP := Lib.hid hp
  have HF := Lib.hid hf
  have HB1 := Lib.hid b1
  obtain ⟨f0, f1, f2⟩ := flat_get L k (by omega)
  clear hv ho hp hf b1
  have HC : Hid (∀ W, Below w1.heap.size w1 W → (W.cell? ⟨g, k * 3, none⟩ = some (.bool (L.getD k e0).neg) ∧ W.cell? ⟨g, k * 3 + 1, none⟩ = some (.slice (L.getD k e0).A (L.getD k e0).xs.length (L.getD k e0).ca) ∧ W.cell? ⟨g, k * 3 + 2, none⟩ = some (.slice (L.getD k e0).B (L.getD k e0).ys.length (L.getD k e0).cb)) ∧ W.frozen? ⟨g, k * 3, none⟩ = false ∧ W.frozen? ⟨g, k * 3 + 1, none⟩ = false ∧ W.frozen? ⟨g, k * 3 + 2, none⟩ = false) := Lib.hid fun W hb => by
    have h := own_keep3 HO.out hb
    exact ⟨⟨(h.cellAt _ (by omega)).trans f0, (h.cellAt _ (by omega)).trans f1, (h.cellAt _ (by omega)).trans f2⟩, h.frozenAt _, h.frozenAt _, h.frozenAt _⟩
  clear f0 f1 f2
  go_wp2_with (go_at_call 87; refine (op_int 1 (by decide) (by decide) _).mono ?_; rintro e w2 ⟨A1, c1, B1, d1, rfl, o1, b2⟩; have HO1 := Lib.hid o1; have HB2 := Lib.hid b2; obtain ⟨⟨q0, q1, q2⟩, z0, z1, z2⟩ := HC.out w2 b2; clear o1 b2)
  have hput := row_put (r := EV.mk (isNeg ((1 : Int) : Rat)) A1 c1 B1 d1 (D (nu ((1 : Int) : Rat))) (D ((1 : Int) : Rat).den)) (own_keep3 HO.out HB2.out) (HP.out.on HB2.out) (HO1.out.beside (HF.out.on HB2.out (own_ltF HO.out))) hk
  rw [HV.out] at hput
  have hs2 := HB2.out.size
  exact bodyPost_ret (results_tmp rfl _ _ _) rfl ⟨some ⟨g, 0, none⟩, d, rfl, by have := hput.1; rw [show EV.v3 _ = rat3 1 from rfl, unitL_set n k] at this; exact this, below_grow (below_on HB1.out HB2.out) hg0 hput.2⟩
end Go.Proofs.YtifepoefeamboaaGreatDoor
namespace Nt
open Go Go.RowKit
/-- what the model tells of axis i -/
def rowQ (qs : List Rat) (vs ws : Nat → List Rat) (sel : Q4 → Rat) (ns : List Nd) (i : Nat) : Rat × Int :=
  (sel ((eval4 qs (vs i) (ws i) ns).1.getD (ns.length - 1) q40), (eval4 qs (vs i) (ws i) ns).2)
/-- what stays so while an axis is worked out -/
def GrSt (tR tE : TypeId) (w v : World) (A : Option Addr) (n c : Nat) (V : Option Addr) (k cv : Nat) (L : List EV) : Prop :=
  v.ownsRow (w.heap.size + 1) tR 3 (.slice V k cv) k (flat L) ∧ PartsRd v V L ∧ Free v V ∧ SlAt v w.heap.size tE A n c ∧ Below w.heap.size w v
section
variable {tR tE : TypeId} {w v v' : World} {A V : Option Addr} {n c k cv : Nat} {L : List EV}
theorem GrSt.on (h : GrSt tR tE w v A n c V k cv L) (hb : Below v.heap.size v v') : GrSt tR tE w v' A n c V k cv L :=
  ⟨own_keep3 h.1 hb, h.2.1.on hb, h.2.2.1.on hb (own_ltF h.1), h.2.2.2.1.on hb, below_on h.2.2.2.2 hb⟩
theorem GrSt.set {r : Nat} {cur : Array Value} {t : TypeId} {f : Nat × Nat} (h : GrSt tR tE w v A n c V k cv L) (hr : v.heap[r]? = some (.cells cur t f)) (hn : ∀ u ∈ cur.toList, noInt u = true) (hg : v.grownBy v' (some r)) (h1 : w.heap.size < r) (h2 : ∀ x, V = some ⟨x, 0, none⟩ → x ≠ r) : GrSt tR tE w v' A n c V k cv L := by
  refine ⟨h.1.kept hg ?_, fun i hi => (h.2.1 i hi).pastF hr hn hg, ?_, h.2.2.2.1.past hg (by omega), below_grow h.2.2.2.2 (by omega) hg⟩
  · rcases h.1.2 with ⟨e, _⟩ | ⟨x, cap, cur', e, _⟩
    · injection e with e; subst e; exact .inl rfl
    · injection e with e
      subst e
      exact .inr (fun q => h2 x rfl (by simpa [Value.ownBlock] using q))
  · intro g e cur' t' f' hc
    have hlt := own_ltF h.1 g e
    exact h.2.2.1 g e cur' t' f' ((hg.block g hlt (fun q => h2 g e (by injection q))).symm.trans hc)
theorem GrSt.lt (h : GrSt tR tE w v A n c V k cv L) : ∀ x, V = some ⟨x, 0, none⟩ → x < v.heap.size := own_ltF h.1
theorem GrSt.box (h : GrSt tR tE w v A n c V k cv L) : w.heap.size < v.heap.size := h.2.2.2.1.lt
theorem EVnew_vq (L : List EV) (ps : List Rat) (p : Rat) (A B : Option Addr) (c d : Nat) (h : L.map EV.v3 = ps.map rat3) : (L ++ [EV.mk (isNeg p) A c B d (D (nu p)) (D p.den)]).map EV.v3 = (ps ++ [p]).map rat3 := by
  rw [List.map_append, h, List.map_append]; rfl
/-- what of twelve cells that are a jet's the slope of one is -/
theorem fieldsQ {q : Q4} {v : World} {nb0 : Bool} {Ea0 Fb0 : Option Addr} {ea0 ec0 fb0 fd0 : Nat} {nb1 : Bool} {Ea1 Fb1 : Option Addr} {ea1 ec1 fb1 fd1 : Nat} {nb2 : Bool} {Ea2 Fb2 : Option Addr} {ea2 ec2 fb2 fd2 : Nat} {nb3 : Bool} {Ea3 Fb3 : Option Addr} {ea3 ec3 fb3 fd3 : Nat} (h : Q4V v q (.agg #[.bool nb0, .slice Ea0 ea0 ec0, .slice Fb0 fb0 fd0, .bool nb1, .slice Ea1 ea1 ec1, .slice Fb1 fb1 fd1, .bool nb2, .slice Ea2 ea2 ec2, .slice Fb2 fb2 fd2, .bool nb3, .slice Ea3 ea3 ec3, .slice Fb3 fb3 fd3])) :
    ((nb0 = isNeg q.f ∧ ea0 = (D (nu q.f)).length ∧ fb0 = (D q.f.den).length) ∧ RdR v (fun _ => True) (D (nu q.f)) (D q.f.den) Ea0 ec0 Fb0 fd0) ∧ ((nb1 = isNeg q.v ∧ ea1 = (D (nu q.v)).length ∧ fb1 = (D q.v.den).length) ∧ RdR v (fun _ => True) (D (nu q.v)) (D q.v.den) Ea1 ec1 Fb1 fd1) ∧ ((nb2 = isNeg q.w ∧ ea2 = (D (nu q.w)).length ∧ fb2 = (D q.w.den).length) ∧ RdR v (fun _ => True) (D (nu q.w)) (D q.w.den) Ea2 ec2 Fb2 fd2) ∧ ((nb3 = isNeg q.vw ∧ ea3 = (D (nu q.vw)).length ∧ fb3 = (D q.vw.den).length) ∧ RdR v (fun _ => True) (D (nu q.vw)) (D q.vw.den) Ea3 ec3 Fb3 fd3) := by
  obtain ⟨A0, c0, B0, d0, A1, c1, B1, d1, A2, c2, B2, d2, A3, c3, B3, d3, e, o0, o1, o2, o3⟩ := h
  simp only [Value.agg.injEq] at e
  have e := congrArg Array.toList e
  simp only [List.cons.injEq, Value.bool.injEq, Value.slice.injEq] at e
  obtain ⟨e0, ⟨e1, e1b, e1c⟩, ⟨e2, e2b, e2c⟩, e3, ⟨e4, e4b, e4c⟩, ⟨e5, e5b, e5c⟩, e6, ⟨e7, e7b, e7c⟩, ⟨e8, e8b, e8c⟩, e9, ⟨ea, eab, eac⟩, ⟨eb, ebb, ebc⟩, -⟩ := e
  subst e1 e1c e2 e2c e4 e4c e5 e5c e7 e7c e8 e8c ea eac eb ebc
  exact ⟨⟨⟨e0, e1b, e2b⟩, o0⟩, ⟨⟨e3, e4b, e5b⟩, o1⟩, ⟨⟨e6, e7b, e8b⟩, o2⟩, ⟨e9, eab, ebb⟩, o3⟩
end
end Nt
namespace Go.Proofs.YtifepoefeamboaaGreatDoor
open Go Go.RowKit Nt
theorem emptyFree1 (w : World) (o : Obj) (t : TypeId) : Free ((w.alloc o).alloc (.cells #[] t)) (some ⟨w.heap.size + 1, 0, none⟩) := by
  have := emptyFree (w.alloc o) t
  rwa [World.size_alloc] at this
theorem rds_empty (w : World) (t : TypeId) : RdS ((w.alloc (.cells #[] t))) (fun _ => True) (some ⟨w.heap.size, 0, none⟩) 0 0 [] := ⟨rfl, Nat.le_refl _, fun h => (by cases h), fun h => absurd h (Nat.lt_irrefl _)⟩

set_option maxRecDepth 100000 in
set_option maxHeartbeats 12800000 in
theorem l06Grad_any (A X : Option Addr) (n c m d : Nat) (ns : List Nd) (qs : List Rat) (P P' : Nat → Prop) (w : World) (hr : RdN w P A n c ns) (hx : RdS w P' X m d (qs.map rat3)) (hf : Fine qs)
    (hg : ∀ k, k < n → fitN (ns.getD k nd0) = true ∧ behind (ns.getD k nd0) k = true ∧ ((ns.getD k nd0).1 = 2 → (ns.getD k nd0).2.2.2 < m)) (hn1 : 1 ≤ n) (hn : n ≤ 60) (hm4 : m ≤ 4096) (R : List Rat) (kod : Int) (hR : rowsTo (rowQ qs (fun i => unitL m i) (fun _ => noughts m) Q4.v ns) m = (R, kod)) :
    Calls Tryz.prog 47 #[.agg #[.slice A n c], .slice X m d] w (SayVC w (R.map rat3) kod) := by
  obtain ⟨i0, hi0, hz0, hz1, hz2⟩ := info_parts infoRat
  have hln : ns.length = n := hr.len
  have HE := fun (k : Nat) (js : List Q4) (code : Int) (hR : eval4 qs (unitL m k) (noughts m) ns = (js, code)) => Lib.hid (fun (Zu : Option Addr) (du : Nat) (Zz : Option Addr) (dz : Nat) (W : World) (hb : Below w.heap.size w W) (hz : RdS W (fun _ => True) Zu m du ((unitL m k).map rat3)) (hz' : RdS W (fun _ => True) Zz m dz ((noughts m).map rat3)) => l06Eval_gen A X Zu Zz n c m d du dz ns qs (unitL m k) (noughts m) js code _ _ _ _ W (hr.on hb) (hx.on hb) hz hz' hf (fine_unitL m k) (fine_noughts m) hg hn1 hn hR)
  have HFIT := Lib.hid (fun (k : Nat) (js : List Q4) (hR : eval4 qs (unitL m k) (noughts m) ns = (js, 0)) => (show lims (js.getD (n - 1) q40) 40 by
    have := eval4_ok qs (unitL m k) (noughts m) ns ns.length (Nat.le_refl _) (by rw [List.take_length, hR])
    rw [List.take_length, hR] at this
    exact getQ_fit this.2 (n - 1) (by rw [this.1]; omega)))
  have HLN := Lib.hid hln
  have HRO := Lib.hid hR
  have HEE := Lib.hid HE
  clear hr hx hf hg hR hln HE
  go_enter Tryz.func47, Tryz.ntmps47
  go_wp2
  go_loopw [6, 7] (fun v j wr => ∃ (k : Nat) (V : Option Addr) (cv : Nat) (L : List EV) (ps : List Rat), k ≤ m ∧ j = .int .i64 k ∧ v = .slice V k cv ∧ Hid (rowsTo (rowQ qs (fun i => unitL m i) (fun _ => noughts m) Q4.v ns) k = (ps, 0)) ∧ Hid (L.map EV.v3 = ps.map rat3) ∧ Hid (GrSt 31 25 w wr A n c V k cv L)) (fun _ j _ => m - (intOf j).toNat)
  case atStart =>
    refine ⟨0, _, 0, [], [], Nat.zero_le _, rfl, rfl, Lib.hid rfl, Lib.hid rfl, Lib.hid ⟨?_, fun i hi => by simp at hi, emptyFree1 _ _ _, (SlAt.new _ _ _ _ _).on (below1 _ _), below2 _ _ _⟩⟩
    have := emptyRow (w.alloc (.cells #[.slice A n c] 25)) 31 3
    rwa [World.size_alloc] at this
  case round =>
    obtain ⟨k, V, cv, L, ps, hk, rfl, rfl, HRK, HV, HG0⟩ := hrel
    by_cases hlt : k < m
    · have hkN : (k : Int) < m := by omega
      have HLT := Lib.hid hlt
      have HVL := Lib.hid HG0.out.lt
      have hbox := HG0.out.box
      have HS0 := Lib.hid HG0.out.2.2.2.1
      obtain ⟨js, code, HEV⟩ : ∃ js code, Hid (eval4 qs (unitL m k) (noughts m) ns = (js, code)) := ⟨_, _, Lib.hid rfl⟩
      have HRW : Hid (rowQ qs (fun i => unitL m i) (fun _ => noughts m) Q4.v ns k = ((js.getD (n - 1) q40).v, code)) := Lib.hid (by unfold rowQ; dsimp only; rw [HEV.out, HLN.out])
      have HE := HEE.out k js code HEV.out
      have HFK : Hid (code = 0 → lims (js.getD (n - 1) q40) 40) := Lib.hid (fun h => HFIT.out k js (by rw [HEV.out, h]))
      obtain ⟨q, HQQ⟩ : ∃ q, Hid (js.getD (n - 1) q40 = q) := ⟨_, Lib.hid rfl⟩
      rw [HQQ.out] at HE HFK HRW
      clear hlt
      go_upto_region 5 with fail
      go_cut [8, 9] from 11 to 39 (fun s1 s2 wx => ∃ (zb : Nat) (nb0 : Bool) (Ea0 : Option Addr) (ea0 ec0 : Nat) (Fb0 : Option Addr) (fb0 fd0 : Nat) (nb1 : Bool) (Ea1 : Option Addr) (ea1 ec1 : Nat) (Fb1 : Option Addr) (fb1 fd1 : Nat) (nb2 : Bool) (Ea2 : Option Addr) (ea2 ec2 : Nat) (Fb2 : Option Addr) (fb2 fd2 : Nat) (nb3 : Bool) (Ea3 : Option Addr) (ea3 ec3 : Nat) (Fb3 : Option Addr) (fb3 fd3 : Nat), w.heap.size < zb ∧ s1 = .pointer (some ⟨zb, 0, none⟩) ∧ s2 = .int .i64 code ∧ (GrSt 31 25 w wx A n c V k cv L) ∧ (SlAt wx w.heap.size 25 A n c) ∧ Q4At wx zb 84 (.bool nb0) (.slice Ea0 ea0 ec0) (.slice Fb0 fb0 fd0) (.bool nb1) (.slice Ea1 ea1 ec1) (.slice Fb1 fb1 fd1) (.bool nb2) (.slice Ea2 ea2 ec2) (.slice Fb2 fb2 fd2) (.bool nb3) (.slice Ea3 ea3 ec3) (.slice Fb3 fb3 fd3) ∧ (code = 0 → Q4V wx q (.agg #[.bool nb0, .slice Ea0 ea0 ec0, .slice Fb0 fb0 fd0, .bool nb1, .slice Ea1 ea1 ec1, .slice Fb1 fb1 fd1, .bool nb2, .slice Ea2 ea2 ec2, .slice Fb2 fb2 fd2, .bool nb3, .slice Ea3 ea3 ec3, .slice Fb3 fb3 fd3])))
      case first =>
        go_region_held3 (fun wx => wx.cell? ⟨w.heap.size, 0, none⟩ = some (.slice A n c))
          (first | with_reducible exact HS3.out.c0 | with_reducible exact HS2.out.c0 | with_reducible exact HS1.out.c0 | with_reducible exact HS0.out.c0 | with_reducible exact (HS3.out.on (below1 _ _)).c0 | with_reducible exact (HS2.out.on (below1 _ _)).c0 | with_reducible exact (HS1.out.on (below1 _ _)).c0 | with_reducible exact (HS0.out.on (below1 _ _)).c0 | with_reducible exact (HS3.out.past (set12_grown _ _ _ _ _ _ _ _ _ _ _ _ _ _) (by omega)).c0 | exact (HS3.out.past (set12_grown _ _ _ _ _ _ _ _ _ _ _ _ _ _) (by omega)).c0 | exact HS0.out.c0 | exact (HS0.out.on (below1 _ _)).c0)
          (first
            | (go_at_call 64; (first | (with_reducible show Calls _ _ _ (World.drew (World.alloc _ _)) _) | (with_reducible show Calls _ _ _ (World.alloc (World.drew _) _) _)); refine calls_at (fun V => Below wr.heap.size wr V ∧ Q4At V wr.heap.size 84 (.bool false) (.slice none 0 0) (.slice none 0 0) (.bool false) (.slice none 0 0) (.slice none 0 0) (.bool false) (.slice none 0 0) (.slice none 0 0) (.bool false) (.slice none 0 0) (.slice none 0 0)) (by first | exact ⟨below1 _ _, Q4At.new _ _ _ _ _ _ _ _ _ _ _ _ _ _⟩ | exact ⟨below_drewN (below1 _ _) 1, Q4At.new _ _ _ _ _ _ _ _ _ _ _ _ _ _⟩ | exact ⟨undrew (below1 _ _), Q4At.new _ _ _ _ _ _ _ _ _ _ _ _ _ _⟩) ?_; rintro y0 ⟨bu, pz⟩; have su0 := bu.size; have HG0 := Lib.hid (HG0.out.on bu); have HS0 := Lib.hid (HS0.out.on bu); have HZ0 := Lib.hid pz; clear bu pz; refine (l06Unit_any m k HLT.out hm4 _).mono ?_; rintro e u1 ⟨Zu, du, rfl, oo, bb⟩; have sv1 := bb.size; have HG1 := Lib.hid (HG0.out.on bb); have HS1 := Lib.hid (HS0.out.on bb); have HZ1 := Lib.hid (HZ0.out.on bb); have HUU1 := Lib.hid oo; clear oo; clear bb)
            | (go_at_call 64; refine (l06Unit_any m k HLT.out hm4 _).mono ?_; rintro e u1 ⟨Zu, du, rfl, oo, bb⟩; have bb := undrew bb; have sv1 := bb.size; have HG1 := Lib.hid (HG0.out.on bb); have HS1 := Lib.hid (HS0.out.on bb); have HUU1 := Lib.hid oo; clear oo; clear bb)
            | (go_at_call 61; (with_reducible show Calls _ _ _ (World.alloc _ _) _); refine calls_at (fun V => Below u1.heap.size u1 V ∧ Q4At V u1.heap.size 84 (.bool false) (.slice none 0 0) (.slice none 0 0) (.bool false) (.slice none 0 0) (.slice none 0 0) (.bool false) (.slice none 0 0) (.slice none 0 0) (.bool false) (.slice none 0 0) (.slice none 0 0)) (by first | exact ⟨below1 _ _, Q4At.new _ _ _ _ _ _ _ _ _ _ _ _ _ _⟩ | exact ⟨below_drewN (below1 _ _) 1, Q4At.new _ _ _ _ _ _ _ _ _ _ _ _ _ _⟩ | exact ⟨undrew (below1 _ _), Q4At.new _ _ _ _ _ _ _ _ _ _ _ _ _ _⟩) ?_; rintro y1 ⟨bu, pz⟩; have su1 := bu.size; have HG1 := Lib.hid (HG1.out.on bu); have HS1 := Lib.hid (HS1.out.on bu); have HUU1 := Lib.hid (HUU1.out.on bu); have HZ1 := Lib.hid pz; clear bu pz; refine (l06Zeros_any m hm4 _).mono ?_; rintro e u2 ⟨Zz, dz, rfl, oo, bb⟩; have sv2 := bb.size; have HG2 := Lib.hid (HG1.out.on bb); have HS2 := Lib.hid (HS1.out.on bb); have HUU2 := Lib.hid (HUU1.out.on bb); have HZ2 := Lib.hid (HZ1.out.on bb); have HZZ2 := Lib.hid oo; clear oo; clear bb)
            | (go_at_call 61; refine (l06Zeros_any m hm4 _).mono ?_; rintro e u2 ⟨Zz, dz, rfl, oo, bb⟩; have sv2 := bb.size; have HG2 := Lib.hid (HG1.out.on bb); have HS2 := Lib.hid (HS1.out.on bb); have HUU2 := Lib.hid (HUU1.out.on bb); have HZZ2 := Lib.hid oo; clear oo; (try (have HZ2 := Lib.hid (HZ1.out.on bb))); clear bb)
            | (go_at_call 60; (with_reducible show Calls _ _ _ (World.alloc _ _) _); refine calls_at (fun V => Below u2.heap.size u2 V ∧ Q4At V u2.heap.size 84 (.bool false) (.slice none 0 0) (.slice none 0 0) (.bool false) (.slice none 0 0) (.slice none 0 0) (.bool false) (.slice none 0 0) (.slice none 0 0) (.bool false) (.slice none 0 0) (.slice none 0 0)) (by first | exact ⟨below1 _ _, Q4At.new _ _ _ _ _ _ _ _ _ _ _ _ _ _⟩ | exact ⟨below_drewN (below1 _ _) 1, Q4At.new _ _ _ _ _ _ _ _ _ _ _ _ _ _⟩ | exact ⟨undrew (below1 _ _), Q4At.new _ _ _ _ _ _ _ _ _ _ _ _ _ _⟩) ?_; rintro y2 ⟨bu, pz⟩; have su2 := bu.size; have HG2 := Lib.hid (HG2.out.on bu); have HS2 := Lib.hid (HS2.out.on bu); have HUU2 := Lib.hid (HUU2.out.on bu); have HZZ2 := Lib.hid (HZZ2.out.on bu); have HZ2 := Lib.hid pz; clear bu pz; refine (HE.out Zu du Zz dz _ (by exact HG2.out.2.2.2.2) (by exact HUU2.out) (by exact HZZ2.out)).mono ?_; rintro e u3 ⟨nb0, Ea0, ea0, ec0, Fb0, fb0, fd0, nb1, Ea1, ea1, ec1, Fb1, fb1, fd1, nb2, Ea2, ea2, ec2, Fb2, fb2, fd2, nb3, Ea3, ea3, ec3, Fb3, fb3, fd3, rfl, oo, bb⟩; have sv3 := bb.size; have HG3 := Lib.hid (HG2.out.on bb); have HS3 := Lib.hid (HS2.out.on bb); have HUU3 := Lib.hid (HUU2.out.on bb); have HZZ3 := Lib.hid (HZZ2.out.on bb); have HZ3 := Lib.hid (HZ2.out.on bb); have HQ3 := Lib.hid (fun h => (oo h).1); clear oo; have f0 := HZ3.out.fz 0; have y0 := HZ3.out.c0; have f1 := HZ3.out.fz 1; have y1 := HZ3.out.c1; have f2 := HZ3.out.fz 2; have y2 := HZ3.out.c2; have f3 := HZ3.out.fz 3; have y3 := HZ3.out.c3; have f4 := HZ3.out.fz 4; have y4 := HZ3.out.c4; have f5 := HZ3.out.fz 5; have y5 := HZ3.out.c5; have f6 := HZ3.out.fz 6; have y6 := HZ3.out.c6; have f7 := HZ3.out.fz 7; have y7 := HZ3.out.c7; have f8 := HZ3.out.fz 8; have y8 := HZ3.out.c8; have f9 := HZ3.out.fz 9; have y9 := HZ3.out.c9; have f10 := HZ3.out.fz 10; have y10 := HZ3.out.c10; have f11 := HZ3.out.fz 11; have y11 := HZ3.out.c11; clear bb)
            | (go_at_call 60; refine (HE.out Zu du Zz dz _ (by exact HG2.out.2.2.2.2) (by exact HUU2.out) (by exact HZZ2.out)).mono ?_; rintro e u3 ⟨nb0, Ea0, ea0, ec0, Fb0, fb0, fd0, nb1, Ea1, ea1, ec1, Fb1, fb1, fd1, nb2, Ea2, ea2, ec2, Fb2, fb2, fd2, nb3, Ea3, ea3, ec3, Fb3, fb3, fd3, rfl, oo, bb⟩; have sv3 := bb.size; have HG3 := Lib.hid (HG2.out.on bb); have HS3 := Lib.hid (HS2.out.on bb); have HUU3 := Lib.hid (HUU2.out.on bb); have HZZ3 := Lib.hid (HZZ2.out.on bb); have HQ3 := Lib.hid (fun h => (oo h).1); clear oo; (try (have HZ3 := Lib.hid (HZ2.out.on bb); have f0 := HZ3.out.fz 0; have y0 := HZ3.out.c0; have f1 := HZ3.out.fz 1; have y1 := HZ3.out.c1; have f2 := HZ3.out.fz 2; have y2 := HZ3.out.c2; have f3 := HZ3.out.fz 3; have y3 := HZ3.out.c3; have f4 := HZ3.out.fz 4; have y4 := HZ3.out.c4; have f5 := HZ3.out.fz 5; have y5 := HZ3.out.c5; have f6 := HZ3.out.fz 6; have y6 := HZ3.out.c6; have f7 := HZ3.out.fz 7; have y7 := HZ3.out.c7; have f8 := HZ3.out.fz 8; have y8 := HZ3.out.c8; have f9 := HZ3.out.fz 9; have y9 := HZ3.out.c9; have f10 := HZ3.out.fz 10; have y10 := HZ3.out.c10; have f11 := HZ3.out.fz 11; have y11 := HZ3.out.c11)); clear bb)
            | fail)
        all_goals
          go_wp2_with fail
          go_meet
        all_goals first | (have HZc := HZ3; exact ⟨_, nb0, Ea0, ea0, ec0, Fb0, fb0, fd0, nb1, Ea1, ea1, ec1, Fb1, fb1, fd1, nb2, Ea2, ea2, ec2, Fb2, fb2, fd2, nb3, Ea3, ea3, ec3, Fb3, fb3, fd3, by omega, rfl, rfl, HG3.out.set HZ3.out (by simp [noInt]) (set12_grown _ _ _ _ _ _ _ _ _ _ _ _ _ _) (by omega) (fun x hx => by have := HVL.out x hx; omega), HS3.out.past (set12_grown _ _ _ _ _ _ _ _ _ _ _ _ _ _) (by omega), HZ3.out.setAll _ _ _ _ _ _ _ _ _ _ _ _, fun h => (HQ3.out h).past HZ3.out (by simp [noInt]) (set12_grown _ _ _ _ _ _ _ _ _ _ _ _ _ _)⟩) | exact ⟨_, nb0, Ea0, ea0, ec0, Fb0, fb0, fd0, nb1, Ea1, ea1, ec1, Fb1, fb1, fd1, nb2, Ea2, ea2, ec2, Fb2, fb2, fd2, nb3, Ea3, ea3, ec3, Fb3, fb3, fd3, by omega, rfl, rfl, HG3.out.on (below1 _ _), HS3.out.on (below1 _ _), Q4At.new _ _ _ _ _ _ _ _ _ _ _ _ _ _, fun h => (HQ3.out h).on (below1 _ _)⟩
      obtain ⟨zb, nb0, Ea0, ea0, ec0, Fb0, fb0, fd0, nb1, Ea1, ea1, ec1, Fb1, fb1, fd1, nb2, Ea2, ea2, ec2, Fb2, fb2, fd2, nb3, Ea3, ea3, ec3, Fb3, fb3, fd3, hzb, rfl, rfl, pG, -, pV, pQ⟩ := hcut
      clear HS0
      by_cases h0 : code = 0
      · have hfit := HFK.out h0
        have hfd := fieldsQ (pQ h0)
        have HRM := Lib.hid (rowsTo_more HRK.out (by rw [HRW.out]; exact h0))
        rw [HRW.out] at HRM
        dsimp only at HRM
        obtain ⟨⟨e1, e2, e3⟩, o1⟩ := hfd.2.1
        subst e1 e2 e3
        have l1 : (D (nu q.v)).length ≤ 16777216 := Nat.le_trans hfit.2.1.1 (by decide)
        have l2 : (D q.v.den).length ≤ 16777216 := Nat.le_trans hfit.2.1.2 (by decide)
        have HGc := Lib.hid pG
        have HO1 := Lib.hid o1
        have q0 := pV.c3
        have q1 := pV.c4
        have q2 := pV.c5
        have hb : (code != 0) = false := by simpa using h0
        clear pG pV pQ hfd o1 hfit HFK HE HRK HRW HEV HQQ HG0 h0
        generalize q.v = p at *
        go_wp2_with fail
        refine (l02Own_any (isNeg p) Ea1 Fb1 ec1 fd1 (D (nu p)) (D p.den) _ wc HO1.out l1 l2).mono ?_
        rintro e w3 ⟨A1, c1, B1, d1, rfl, o3, b3⟩
        have HG3 := Lib.hid (HGc.out.on b3)
        have HO1 := Lib.hid HG3.out.1
        have HF1 := Lib.hid HG3.out.2.2.1
        have HP1 : Hid (PartsRd w3 V (L ++ [EV.mk (isNeg p) A1 c1 B1 d1 (D (nu p)) (D p.den)])) := HG3.out.2.1.snoc (RdR.beside o3 HF1.out)
        have HV1 : Hid ((L ++ [EV.mk (isNeg p) A1 c1 B1 d1 (D (nu p)) (D p.den)]).map EV.v3 = (ps ++ [p]).map rat3) := Lib.hid (EVnew_vq L _ _ A1 B1 c1 d1 HV.out)
        have hs3 := HG3.out.box
        clear o3 b3 HGc HV q0 q1 q2
        go_wp2_with (at_builtin; refine wpList_append_free _ rfl _ _ 27 rfl (w.heap.size + 1) 31 i0 _ 3 56 Tryz.underlying27 hi0 hz0 hz1 hz2 rfl (by decide) (by decide) _ k _ _ rfl (HO1.out.alloc _) ⟨w3.heap.size, 0, none⟩ 1 1 [.bool (isNeg p), .slice A1 (D (nu p)).length c1, .slice B1 (D p.den).length d1] rfl rfl (cells3 _ _ _ _ _ _ _ _ _) (one3 _ _ _ _ _ _ _) (by simp [noInt]) (by decide) (by unfold maxLen; omega) (by omega) (by simp; omega) (HF1.out.on (below1 _ _) (own_ltF HO1.out)) _ rfl ?_; intro g' cv' w4 hown hgrow hat hfree)
        have hlit := below1 w3 (.cells #[.bool (isNeg p), .slice A1 (D (nu p)).length c1, .slice B1 (D p.den).length d1] 31)
        have hrb := rowed3_below (HO1.out.alloc _) (by simp; omega) hgrow
        have HG4 : Hid (GrSt 31 25 w w4 A n c (some ⟨g', 0, none⟩) (k + 1) cv' (L ++ [EV.mk (isNeg p) A1 c1 B1 d1 (D (nu p)) (D p.den)])) := Lib.hid ⟨by rw [flat_snoc]; exact hown, (HP1.out.on hlit).appended (HO1.out.alloc _) hgrow hat, hfree, (hrb.block _ (by omega)).trans (HG3.out.2.2.2.1.on hlit), (below_on HG3.out.2.2.2.2 hlit).trans (hrb.mono (by omega))⟩
        clear hown hgrow hat hfree hlit hrb HP1 HO1 HF1 HG3
        go_wp2
        go_roundw
        case rel => exact ⟨k + 1, _, _, _, _, by omega, by go_num, rfl, HRM, HV1, HG4⟩
        case measure => simp [intOf]; omega
      · have hb : (code != 0) = true := by simpa using h0
        have HST := Lib.hid (rowsTo_stop HRK.out (by rw [HRW.out]; exact h0) HLT.out)
        rw [HRW.out, HRO.out] at HST
        dsimp only at HST
        have HBc := Lib.hid pG.2.2.2.2
        clear h0 HFK HE pG pV pQ HG0
        go_wp2
        have hc : kod = code := congrArg Prod.snd HST.out
        have hr0 : R = [] := congrArg Prod.fst HST.out
        subst hc hr0
        exact bodyPost_ret (results_tmp2 rfl _ _ _) rfl ⟨_, 0, rfl, rds_empty _ _, below_on HBc.out (below1 _ _)⟩
    · obtain rfl : k = m := by omega
      have HRE := Lib.hid (HRO.out.symm.trans HRK.out)
      have hc : kod = 0 := congrArg Prod.snd HRE.out
      have hr0 : R = ps := congrArg Prod.fst HRE.out
      subst hc hr0
      have hpl : R.length = k := by
        have := rowsTo_len (R := rowQ qs (fun i => unitL k i) (fun _ => noughts k) Q4.v ns) k (by rw [HRK.out])
        rw [HRK.out] at this
        exact this
      have HRD : Hid (RdS wr (fun _ => True) V k cv (R.map rat3)) := by
        have := HG0.out.2.1.rds HG0.out.1
        rw [HV.out] at this
        exact this
      have HBc := Lib.hid HG0.out.2.2.2.2
      have HPL := Lib.hid hpl
      clear HG0 HRE hpl
      go_wp2
      exact bodyPost_ret (results_tmp2 rfl _ _ _) rfl ⟨V, cv, by rw [List.length_map, HPL.out]; rfl, by rw [List.length_map, HPL.out]; exact HRD.out, HBc.out⟩

set_option maxRecDepth 20000 in
set_option maxHeartbeats 3200000 in
theorem specGradOf_ok (A X : Option Addr) (n c m d : Nat) (ns : List Nd) (qs : List Rat) (P P' : Nat → Prop) (w : World) (hr : RdN w P A n c ns) (hx : RdS w P' X m d (qs.map rat3)) (hf : Fine qs) (hn : n ≤ 1048576) (hm : m ≤ 1048576) (hcode : ptCode (okE ns) ns m (qs.map rat3) = 0) (R : List Rat) (kod : Int) (hR : rowsTo (rowQ qs (fun i => unitL m i) (fun _ => noughts m) Q4.v ns) m = (R, kod)) :
    Calls Tryz.prog 15 #[.agg #[.slice A n c], .slice X m d] w (SayVC w (R.map rat3) kod) := by
  obtain ⟨h4, hright, hok, hdim⟩ := ptCode_zero hcode
  have hln : ns.length = n := hr.len
  obtain ⟨hg, hn1, hn60⟩ := okE_at hln hright hdim
  have z1 : decide ((4096 : Int) < m) = false := by simp; omega
  have HA := Lib.hid (fun W (hw : Below w.heap.size w W) => l06Ask_any A X n c m d ns (qs.map rat3) _ _ W (hr.on hw) (hx.on hw) (small_fine hf) hn hm)
  have HG := Lib.hid (fun W (hw : Below w.heap.size w W) => l06Grad_any A X n c m d ns qs _ _ W (hr.on hw) (hx.on hw) hf hg hn1 hn60 h4 R kod hR)
  rw [hcode] at HA
  clear h4 hright hok hdim hln hg hn1 hn60 hr hx hf hcode hR
  go_enter Tryz.func15, Tryz.ntmps15
  go_upto_region 1 with fail
  refine wp_at (fun W => Below w.heap.size w W ∧ SlAt W w.heap.size 25 A n c) ⟨below1 _ _, SlAt.new _ _ _ _ _⟩ ?_
  rintro W ⟨hw, s0⟩
  have t0 := s0.c0
  go_wp2_with fail
  refine (HA.out W hw).mono ?_
  rintro e w1 ⟨rfl, b1⟩
  have HB1 := Lib.hid (below_on hw b1)
  have HS1 := Lib.hid (s0.on b1)
  have t1 := HS1.out.c0
  clear hw s0 b1 t0
  go_wp2_with fail
  refine (HG.out w1 HB1.out).mono ?_
  rintro e w2 ⟨V, cv, rfl, hv, b2⟩
  have HB2 := Lib.hid (below_on HB1.out b2)
  have HV := Lib.hid hv
  clear hv b2 t1
  go_wp2
  exact bodyPost_ret (results_tmp2 rfl _ _ _) rfl ⟨V, cv, by rw [List.length_map]; rfl, HV.out, HB2.out⟩

end Go.Proofs.YtifepoefeamboaaGreatDoor
namespace Nt
open Go Go.RowKit
theorem grad_rows (qs : List Rat) (ns : List Nd) : rowsTo (rowQ qs (fun i => unitL qs.length i) (fun _ => noughts qs.length) Q4.v ns) qs.length = rowsTo (rowJ qs (fun i _ => unitL qs.length i) 1 ns) qs.length := by
  refine rowsTo_congr _ fun k _ => ?_
  have h := eval_swap qs (noughts qs.length) (unitL qs.length k) ns
  rw [eval_one qs (unitL qs.length k) ns (unitL_len _ _)] at h
  dsimp only at h
  unfold rowQ rowJ
  dsimp only
  rw [h]
  dsimp only
  rw [getD_swap, getD_r4]
  rfl
theorem rows_fit {qs : List Rat} {vs : Nat → Nat → List Rat} {N : Nat} (hN : N = 1 ∨ N = 2) {ns : List Nd} (h1 : 1 ≤ ns.length) (m : Nat) : ∀ p ∈ (rowsTo (rowJ qs vs N ns) m).1, fitQ p := by
  refine rowsTo_fit fitQ m fun k _ h0 => ?_
  have hh := (last_L2 (n := ns.length) (vars := varsJ qs (vs k) N qs.length) (fun j hj => Nat.le_trans (varsJ_dep _ _ _ _ j hj) (by omega)) rfl h1 (js := (evalJ (varsJ qs (vs k) N qs.length) ns).1) (by rw [← h0]; rfl)).2
  unfold rowJ
  rcases hN with rfl | rfl
  · exact hh.2.2.2.1
  · exact hh.2.2.2.2
theorem rows_short {R : Nat → Rat × Int} {m : Nat} (hm : m ≤ 4) : (rowsTo R m).1.length ≤ 4 := by
  by_cases h : (rowsTo R m).2 = 0
  · rw [rowsTo_len m h]; exact hm
  · rw [rowsTo_none m h]; exact Nat.zero_le _
end Nt
