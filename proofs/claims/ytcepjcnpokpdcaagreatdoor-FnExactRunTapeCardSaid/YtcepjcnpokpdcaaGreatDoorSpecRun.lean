/-
  The value of each step: l07Run of the model.
-/
import Derived.Test.YtcepjcnpokpdcaaGreatDoorJetEval
import Derived.Test.YtcepjcnpokpdcaaGreatDoorVecScale
import Derived.Test.YtcepjcnpokpdcaaGreatDoorTapeCopy
import Derived.Test.YtcepjcnpokpdcaaGreatDoorDivRat
import Derived.Test.YtcepjcnpokpdcaaGreatDoorRatMake
import Derived.Test.YtcepjcnpokpdcaaGreatDoorRatPow
import Derived.Test.YtcepjcnpokpdcaaGreatDoorGrpE
import Derived.Test.YtcepjcnpokpdcaaGreatDoorTapeMath
import Derived.Deep.RegionHeld3
namespace Nt
open Go Go.RowKit
theorem evQ_none {xs : List Rat} {ns : List Nd} {k : Nat} {js : List Rat} (hk : k < ns.length) (hj : evalQ xs (ns.take k) = (js, 0)) (hs : stepQ xs js (ns.getD k nd0) = none) : evalQ xs ns = ([], 10) := by
  have e : evalQ xs (ns.take (k + 1)) = ([], 10) := by rw [evalQ_take xs ns k hk, hj]; unfold estepQ; rw [if_pos rfl]; dsimp only; rw [hs]
  rw [evalQ_stop xs ns (k + 1) (by rw [e]; decide), e]
theorem evQ_full {xs : List Rat} {ns : List Nd} {k : Nat} {js : List Rat} {j : Rat} (hk : k < ns.length) (hj : evalQ xs (ns.take k) = (js, 0)) (hs : stepQ xs js (ns.getD k nd0) = some j) (hf : ¬ fitQ j) : evalQ xs ns = ([], 7) := by
  have e : evalQ xs (ns.take (k + 1)) = ([], 7) := by rw [evalQ_take xs ns k hk, hj]; unfold estepQ; rw [if_pos rfl]; dsimp only; rw [hs]; dsimp only; rw [if_neg hf]
  rw [evalQ_stop xs ns (k + 1) (by rw [e]; decide), e]
theorem evQ_more {xs : List Rat} {ns : List Nd} {k : Nat} {js : List Rat} {j : Rat} (hk : k < ns.length) (hj : evalQ xs (ns.take k) = (js, 0)) (hs : stepQ xs js (ns.getD k nd0) = some j) (hf : fitQ j) : evalQ xs (ns.take (k + 1)) = (js ++ [j], 0) := by
  rw [evalQ_take xs ns k hk, hj]; unfold estepQ; rw [if_pos rfl]; dsimp only; rw [hs]; dsimp only; rw [if_pos hf]
theorem lim_num (n : Int) (h0 : 0 ≤ n) (h1 : n ≤ 999999999) : lim (n : Rat) 40 := by
  constructor
  · have e : nu (n : Rat) = n.natAbs := by unfold nu; rw [Rat.num_intCast]
    rw [e]; refine (D_len_le _ 40).2 (Nat.lt_of_le_of_lt (show n.natAbs ≤ 999999999 by omega) (by decide))
  · rw [Rat.den_intCast, D_1_len]; omega
theorem getD_fit {js : List Rat} (h : ∀ q ∈ js, fitQ q) (i : Nat) (hi : i < js.length) : (D (nu (js.getD i 0))).length ≤ 40 ∧ (D (js.getD i 0).den).length ≤ 40 := by
  have e : js.getD i 0 = js[i] := by simp [List.getD, hi]
  rw [e]; exact h _ (List.getElem_mem hi)
/-- two elements of a list of numbers -/
theorem RdS.two {w : World} {V : Option Addr} {n c : Nat} {js : List Rat} (h : RdS w (fun _ => True) V n c (js.map rat3)) {i k : Nat} (hi : i < n) (hk : k < n) :
    ∃ b o Ai ai Bi bi Ak ak Bk bk, V = some ⟨b, o, none⟩ ∧ b < w.heap.size ∧ C3 w b (o + i * 3) (isNeg (js.getD i 0)) Ai (D (nu (js.getD i 0))).length ai Bi (D (js.getD i 0).den).length bi ∧ C3 w b (o + k * 3) (isNeg (js.getD k 0)) Ak (D (nu (js.getD k 0))).length ak Bk (D (js.getD k 0).den).length bk ∧
      RdR w (fun _ => True) (D (nu (js.getD i 0))) (D (js.getD i 0).den) Ai ai Bi bi ∧ RdR w (fun _ => True) (D (nu (js.getD k 0))) (D (js.getD k 0).den) Ak ak Bk bk := by
  have hl : js.length = n := by have := h.len; rw [List.length_map] at this; exact this
  obtain ⟨b, o, e, _, hlb, hc⟩ := h.at_ (by omega)
  obtain ⟨Ai, ai, Bi, bi, p0, p1, p2, p3⟩ := hc i hi
  obtain ⟨Ak, ak, Bk, bk, q0, q1, q2, q3⟩ := hc k hk
  rw [getD_rat js i (by omega)] at p0 p1 p2 p3
  rw [getD_rat js k (by omega)] at q0 q1 q2 q3
  exact ⟨b, o, Ai, ai, Bi, bi, Ak, ak, Bk, bk, e, hlb, ⟨p0, p1, p2⟩, ⟨q0, q1, q2⟩, p3, q3⟩
theorem own_lit1 (w : World) (o : Obj) (t : TypeId) (sz : Nat) : ((w.alloc o).alloc (.cells #[] t)).ownsRow (w.heap.size + 1) t sz (.slice (some ⟨w.heap.size + 1, 0, none⟩) 0 0) 0 [] := by
  refine ⟨by simp, .inr ⟨w.heap.size + 1, 0, #[], rfl, Nat.le_refl _, ?_, Nat.le_refl _, Nat.zero_le _, by simp, by simp⟩⟩
  have := heap_alloc_new (w.alloc o) (.cells #[] t)
  rwa [World.size_alloc] at this
/-- a node's struct, and two numbers in the list -/
def HeldQ (w : World) (nb : Nat) (tN : TypeId) (x : Nd) (b p q : Nat) (g : Bool) (A : Option Addr) (la ca : Nat) (B : Option Addr) (lb cb : Nat) (h : Bool) (A' : Option Addr) (la' ca' : Nat) (B' : Option Addr) (lb' cb' : Nat) : Prop :=
  NodeAt w nb tN x.1 x.2.1 x.2.2.1 x.2.2.2 ∧ b < w.heap.size ∧ C3 w b p g A la ca B lb cb ∧ C3 w b q h A' la' ca' B' lb' cb'
theorem HeldQ.on {w w' : World} {nb : Nat} {tN : TypeId} {x : Nd} {b p q : Nat} {g : Bool} {A : Option Addr} {la ca : Nat} {B : Option Addr} {lb cb : Nat} {h : Bool} {A' : Option Addr} {la' ca' : Nat} {B' : Option Addr} {lb' cb' : Nat} (hh : HeldQ w nb tN x b p q g A la ca B lb cb h A' la' ca' B' lb' cb') (hb : Below w.heap.size w w') : HeldQ w' nb tN x b p q g A la ca B lb cb h A' la' ca' B' lb' cb' :=
  ⟨hh.1.on hb, Nat.lt_of_lt_of_le hh.2.1 hb.size, hh.2.2.1.on hh.2.1 hb, hh.2.2.2.on hh.2.1 hb⟩
theorem HeldQ.grown {w w' : World} {nb r : Nat} {tN : TypeId} {x : Nd} {b p q : Nat} {g : Bool} {A : Option Addr} {la ca : Nat} {B : Option Addr} {lb cb : Nat} {h : Bool} {A' : Option Addr} {la' ca' : Nat} {B' : Option Addr} {lb' cb' : Nat} (hh : HeldQ w nb tN x b p q g A la ca B lb cb h A' la' ca' B' lb' cb') (hg : w.grownBy w' (some r)) (h1 : nb ≠ r) (h2 : b ≠ r) : HeldQ w' nb tN x b p q g A la ca B lb cb h A' la' ca' B' lb' cb' := by
  have e1 := hg.block nb hh.1.lt (fun e => h1 (by injection e))
  have e2 := hg.block b hh.2.1 (fun e => h2 (by injection e))
  exact ⟨e1.trans hh.1, Nat.lt_of_lt_of_le hh.2.1 hg.size, ⟨(World.cell?_of_block (a := ⟨b, p, none⟩) e2).trans hh.2.2.1.1, (World.cell?_of_block (a := ⟨b, p + 1, none⟩) e2).trans hh.2.2.1.2.1, (World.cell?_of_block (a := ⟨b, p + 2, none⟩) e2).trans hh.2.2.1.2.2⟩, ⟨(World.cell?_of_block (a := ⟨b, q, none⟩) e2).trans hh.2.2.2.1, (World.cell?_of_block (a := ⟨b, q + 1, none⟩) e2).trans hh.2.2.2.2.1, (World.cell?_of_block (a := ⟨b, q + 2, none⟩) e2).trans hh.2.2.2.2.2⟩⟩
theorem HeldQ.cells {w : World} {nb : Nat} {tN : TypeId} {op i k n : Int} {b p q : Nat} {g : Bool} {A : Option Addr} {la ca : Nat} {B : Option Addr} {lb cb : Nat} {h : Bool} {A' : Option Addr} {la' ca' : Nat} {B' : Option Addr} {lb' cb' : Nat} (hh : HeldQ w nb tN (op, i, k, n) b p q g A la ca B lb cb h A' la' ca' B' lb' cb') :
    (w.cell? ⟨nb, 0, none⟩ = some (.int .i64 op) ∧ w.cell? ⟨nb, 1, none⟩ = some (.int .i64 i) ∧ w.cell? ⟨nb, 2, none⟩ = some (.int .i64 k) ∧ w.cell? ⟨nb, 3, none⟩ = some (.int .i64 n)) ∧ (w.cell? ⟨b, p, none⟩ = some (.bool g) ∧ w.cell? ⟨b, p + 1, none⟩ = some (.slice A la ca) ∧ w.cell? ⟨b, p + 2, none⟩ = some (.slice B lb cb)) ∧ (w.cell? ⟨b, q, none⟩ = some (.bool h) ∧ w.cell? ⟨b, q + 1, none⟩ = some (.slice A' la' ca') ∧ w.cell? ⟨b, q + 2, none⟩ = some (.slice B' lb' cb')) := ⟨hh.1.four, hh.2.2.1, hh.2.2.2⟩
/-- what stays so while a step's value is worked out: the tape's struct, the values of the steps ahead -/
def RunSt (tr tT : TypeId) (w v : World) (A : Option Addr) (n c : Nat) (ot : Int) (V : Option Addr) (k cv : Nat) (L : List EV) : Prop :=
  v.ownsRow (w.heap.size + 1) tr 3 (.slice V k cv) k (flat L) ∧ PartsRd v V L ∧ TpAt v w.heap.size tT A n c ot ∧ Below w.heap.size w v
theorem RunSt.on {tr tT : TypeId} {w v v' : World} {A V : Option Addr} {n c k cv : Nat} {ot : Int} {L : List EV} (h : RunSt tr tT w v A n c ot V k cv L) (hb : Below v.heap.size v v') : RunSt tr tT w v' A n c ot V k cv L :=
  ⟨own_keep3 h.1 hb, h.2.1.on hb, h.2.2.1.on hb, below_on h.2.2.2 hb⟩
theorem RunSt.set {tr tT t : TypeId} {w v v' : World} {A V : Option Addr} {n c k cv r : Nat} {ot : Int} {L : List EV} {g : Bool} {A' B' : Option Addr} {la ca lb cb : Nat} (h : RunSt tr tT w v A n c ot V k cv L) (hr : RatAt v r t g A' la ca B' lb cb) (hg : v.grownBy v' (some r)) (h1 : w.heap.size < r) (h2 : ∀ x, V = some ⟨x, 0, none⟩ → x ≠ r) : RunSt tr tT w v' A n c ot V k cv L := by
  refine ⟨h.1.kept hg ?_, fun i hi => ⟨(h.2.1 i hi).1.past hr hg, (h.2.1 i hi).2.past hr hg⟩, h.2.2.1.past hg (by omega), below_grow h.2.2.2 (by omega) hg⟩
  rcases h.1.2 with ⟨e, _⟩ | ⟨x, cap, cur, e, _⟩
  · injection e with e; subst e; exact .inl rfl
  · injection e with e
    subst e
    exact .inr (fun q => h2 x rfl (by simpa [Value.ownBlock] using q))
theorem RunSt.lt {tr tT : TypeId} {w v : World} {A V : Option Addr} {n c k cv : Nat} {ot : Int} {L : List EV} (h : RunSt tr tT w v A n c ot V k cv L) : ∀ x, V = some ⟨x, 0, none⟩ → x < v.heap.size := by
  rintro x rfl
  exact (h.1.lt x rfl).2
theorem RunSt.rds {tr tT : TypeId} {w v : World} {A V : Option Addr} {n c k cv : Nat} {ot : Int} {L : List EV} {js : List Rat} (h : RunSt tr tT w v A n c ot V k cv L) (hl : L.map EV.v3 = js.map rat3) : RdS v (fun _ => True) V k cv (js.map rat3) := hl ▸ h.2.1.rds h.1
end Nt
namespace Go.Proofs.YtcepjcnpokpdcaaGreatDoor
open Go Go.RowKit Nt

theorem l02Neg_q (f : Rat) (A B : Option Addr) (ca cb : Nat) (w : World) (hl : (D (nu f)).length ≤ 16777216) :
    Calls Tryz.prog 111 #[.agg #[.bool (isNeg f), .slice A (D (nu f)).length ca, .slice B (D f.den).length cb]] w fun e w' => e = .returned (.agg #[.bool (isNeg (-f)), .slice A (D (nu (-f))).length ca, .slice B (D (-f).den).length cb]) ∧ Below w.heap.size w w' := by
  obtain ⟨e1, e2, e3⟩ := neg_parts f
  rw [e1, e2, e3]
  exact l02Neg_any (isNeg f) A B _ ca _ cb w hl

set_option maxRecDepth 40000 in
set_option maxHeartbeats 12800000 in
/-- the values of a right tape's steps, or a code -/
theorem l07Run_any (A X : Option Addr) (n c m d : Nat) (ns : List Nd) (ot : Int) (qs : List Rat) (P P' : Nat → Prop) (w : World) (hr : RdN w P A n c ns) (hx : RdS w P' X m d (qs.map rat3)) (hf : Fine qs)
    (hg : ∀ k, k < n → fitN (ns.getD k nd0) = true ∧ behind (ns.getD k nd0) k = true ∧ ((ns.getD k nd0).1 = 2 → (ns.getD k nd0).2.2.2 < m)) (hn : n ≤ 60) :
    Calls Tryz.prog 74 #[.agg #[.slice A n c, .int .i64 ot], .slice X m d] w (SayVC w ((evalQ qs ns).1.map rat3) (evalQ qs ns).2) := by
  have HLN : Hid (ns.length = n) := hr.len
  have HLX : Hid (qs.length = m) := by have := hx.len; rw [List.length_map] at this; exact this
  have HR := Lib.hid (hr.mono (Q := (· < w.heap.size)) fun _ _ h => h)
  have HX := Lib.hid hx.low
  have HFI := Lib.hid hf
  have HG := Lib.hid hg
  have HW0 := Lib.hid (TpAt.new w 63 A n c ot)
  have HWB := Lib.hid (below1 w (.cells #[.slice A n c, .int .i64 ot] 63))
  clear hr hx hf hg
  obtain ⟨i0, hi0, hz0, hz1, hz2⟩ := info_parts infoRat
  go_enter Tryz.func74, Tryz.ntmps74
  go_wp2
  go_loopw [6, 7] (fun v i wr => ∃ (k : Nat) (V : Option Addr) (cv : Nat) (L : List EV) (js : List Rat), k ≤ n ∧ i = .int .i64 k ∧ v = .slice V k cv ∧ Hid (evalQ qs (ns.take k) = (js, 0)) ∧ Hid (L.map EV.v3 = js.map rat3) ∧ Hid (RunSt 31 63 w wr A n c ot V k cv L)) (fun _ i _ => n - (intOf i).toNat)
  case atStart => exact ⟨0, _, 0, [], [], Nat.zero_le _, rfl, rfl, Lib.hid rfl, Lib.hid rfl, Lib.hid ⟨own_lit1 _ _ _ _, fun i hi => by simp at hi, HW0.out.on (below1 _ _), below_on HWB.out (below1 _ _)⟩⟩
  case round =>
    obtain ⟨k, V, cv, L, js, hk, rfl, rfl, HEV, HV, HS⟩ := hrel
    have t0 := HS.out.2.2.1.c0
    by_cases hlt : k < n
    · obtain ⟨b, o, rfl, _, hP, hc⟩ := HR.out.at_ (by omega)
      obtain ⟨q0, q1, q2, q3⟩ := hc k hlt
      have hkN : (k : Int) < n := by omega
      have hkl : k < ns.length := by rw [HLN.out]; exact hlt
      obtain ⟨gf, gb, gv⟩ := HG.out k hlt
      have HNO := Lib.hid (fun h => evQ_none hkl HEV.out h)
      have HFU := Lib.hid (fun j h h' => evQ_full (j := j) hkl HEV.out h h')
      have HMO := Lib.hid (fun j h h' => evQ_more (j := j) hkl HEV.out h h')
      have HJF : Hid (js.length = k ∧ ∀ q ∈ js, fitQ q) := by
        have := evalQ_ok qs ns k (by omega) (by rw [HEV.out])
        rw [HEV.out] at this
        exact this
      obtain ⟨x, hxx⟩ : ∃ x, ns.getD k nd0 = x := ⟨_, rfl⟩
      rw [hxx] at q0 q1 q2 q3 gf gb gv HNO HFU HMO
      have q0 := (HS.out.2.2.2.cell (p := ⟨b, o + k * 4, none⟩) hP).trans q0
      have q1 := (HS.out.2.2.2.cell (p := ⟨b, o + k * 4 + 1, none⟩) hP).trans q1
      have q2 := (HS.out.2.2.2.cell (p := ⟨b, o + k * 4 + 2, none⟩) hP).trans q2
      have q3 := (HS.out.2.2.2.cell (p := ⟨b, o + k * 4 + 3, none⟩) hP).trans q3
      clear hxx hc hkl HEV
      obtain ⟨op, xa, xb, xn⟩ := x
      dsimp only at q0 q1 q2 q3 gv
      unfold fitN mostN at gf
      unfold behind at gb
      simp only [Bool.and_eq_true, decide_eq_true_eq] at gf gb
      obtain ⟨⟨⟨⟨⟨f1, f2⟩, f3⟩, f4⟩, -⟩, -⟩ := gf
      obtain ⟨gb1, gb2⟩ := gb
      have f9 : xn ≤ 999999999 := by
        refine Int.le_trans f4 ?_
        by_cases z1 : op = 1
        · rw [if_pos z1]; omega
        · rw [if_neg z1]
          by_cases z2 : op = 2
          · rw [if_pos z2]; omega
          · rw [if_neg z2]
            by_cases z8 : op = 8
            · rw [if_pos z8]; omega
            · rw [if_neg z8]; omega
      go_wp2_with fail
      refine calls_at (fun W => Below wr.heap.size wr W ∧ NodeAt W wr.heap.size 127 op xa xb xn) ⟨below1 _ _, NodeAt.new _ _ _ _ _ _⟩ ?_
      rintro W ⟨bW, nW⟩
      have HSW := Lib.hid (HS.out.on bW)
      have hsW := bW.size
      have hnb := nW.lt
      clear t0 q0 q1 q2 q3
      refine (l02Int_any xn W (by omega) (by omega)).mono ?_
      rintro e w1 ⟨A1, c1, B1, d1, rfl, o1, b1⟩
      rw [show mkRat xn 1 = (xn : Rat) from Rat.mkRat_one xn] at o1 ⊢
      have HS1 := Lib.hid (HSW.out.on b1)
      have HN1 := Lib.hid (nW.on b1)
      have HO1 := Lib.hid o1
      have hs1 := b1.size
      clear bW b1 o1 nW HS HSW
      go_upto_region 7 with fail
      refine wp_at (fun v0 => Below w1.heap.size w1 v0 ∧ RatAt v0 w1.heap.size 31 (isNeg (xn : Rat)) A1 (D (nu (xn : Rat))).length c1 B1 (D (xn : Rat).den).length d1) ⟨below1 _ _, RatAt.new _ _ _ _ _ _ _ _ _⟩ ?_
      rintro v0 ⟨b0, r0⟩
      have HS0 := Lib.hid (HS1.out.on b0)
      have HN0 := Lib.hid (HN1.out.on b0)
      have HO0 := Lib.hid (HO1.out.on b0)
      have HR0 := Lib.hid r0
      have hrow : ∀ x, V = some ⟨x, 0, none⟩ → x ≠ w1.heap.size := fun x hx => Nat.ne_of_lt (HS1.out.lt x hx)
      have hnr : wr.heap.size ≠ w1.heap.size := by omega
      have hwr : w.heap.size < w1.heap.size := by have := HS1.out.2.2.1.lt; exact this
      have n0 := HN0.out.c0
      clear b0 r0 HN1 HO1 HS1
      have hcase : op = 1 ∨ op = 2 ∨ op = 3 ∨ op = 4 ∨ op = 5 ∨ op = 6 ∨ op = 7 ∨ op = 8 := by omega
      have HRDS := Lib.hid (HS0.out.rds HV.out)
      rcases hcase with rfl | rfl | rfl | rfl | rfl | rfl | rfl | rfl
      · obtain ⟨p, hp, rfl⟩ : ∃ p, stepQ qs js (1, xa, xb, xn) = some p ∧ p = (xn : Rat) := ⟨_, by simp [stepQ], rfl⟩
        have hlp : lim (xn : Rat) 16777216 := lim_mono (lim_num xn f3 f9) (by decide)
        obtain ⟨lp1, lp2⟩ := hlp
        generalize (xn : Rat) = p at *
        go_upto_region 24 with fail
        clear n0
        refine wp_at (fun v9 => ∃ (A9 : Option Addr) (c9 : Nat) (B9 : Option Addr) (d9 : Nat), RatAt v9 w1.heap.size 31 (isNeg p) A9 (D (nu p)).length c9 B9 (D p.den).length d9 ∧ RdR v9 (fun _ => True) (D (nu p)) (D p.den) A9 c9 B9 d9 ∧ RunSt 31 63 w v9 (some ⟨b, o, none⟩) n c ot V k cv L) ?_ ?_
        · exact ⟨A1, c1, B1, d1, HR0.out, HO0.out.mono fun _ _ _ => trivial, HS0.out⟩
        rintro v9 ⟨A9, c9, B9, d9, r9, o9, s9⟩
        have HR9 := Lib.hid r9
        have HO9 := Lib.hid o9
        have HS9 := Lib.hid s9
        clear r9 o9 s9
        have HFUL := Lib.hid (fun h => HFU.out p hp h)
        have HMOR := Lib.hid (fun h => HMO.out p hp h)
        clear hp HNO HFU HMO HN0 HS0 HR0 HO0 HRDS
        have a0 := HR9.out.c0
        have a1 := HR9.out.c1
        have a2 := HR9.out.c2
        by_cases hfp : fitQ p
        · have hf2 : (D (nu p)).length ≤ 40 ∧ (D p.den).length ≤ 40 := hfp
          go_wp2_with fail
          refine (l02Fits_yes (isNeg p) A9 B9 _ c9 _ d9 v9 hf2.1 hf2.2).mono ?_
          rintro e w5 ⟨rfl, b5⟩
          have HR5 := Lib.hid (HR9.out.on b5)
          have HO5 := Lib.hid (HO9.out.on b5)
          have HS5 := Lib.hid (HS9.out.on b5)
          have a0 := HR5.out.c0
          have a1 := HR5.out.c1
          have a2 := HR5.out.c2
          clear b5 HR9 HO9 HS9
          go_wp2_with fail
          refine (l02Own_new (isNeg p) A9 B9 c9 d9 (D (nu p)) (D p.den) _ w5 HO5.out (by omega) (by omega)).mono ?_
          rintro e w6 ⟨A6, c6, B6, d6, rfl, o6, b6⟩
          have HS6 := Lib.hid (HS5.out.on b6)
          have HP6 : Hid (PartsRd w6 V (L ++ [EV.mk (isNeg p) A6 c6 B6 d6 (D (nu p)) (D p.den)])) := HS6.out.2.1.snoc (o6.mono fun b h _ => row_ne HS5.out.1 (Nat.le_refl _) b h)
          have HV6 : Hid ((L ++ [EV.mk (isNeg p) A6 c6 B6 d6 (D (nu p)) (D p.den)]).map EV.v3 = (js ++ [p]).map rat3) := by
            show _ = _
            rw [List.map_append, HV.out, List.map_append]
            rfl
          have hs6 : w.heap.size + 1 ≤ w6.heap.size := by have := HS6.out.2.2.1.lt; omega
          clear o6 b6 HR5 HO5 HS5 a0 a1 a2
          go_wp2_with (at_builtin; refine wpList_append_lies _ rfl _ _ 27 rfl (w.heap.size + 1) 31 i0 _ 3 56 Tryz.underlying27 hi0 hz0 hz1 hz2 rfl (by decide) _ k _ rfl (HS6.out.1.alloc _) ⟨w6.heap.size, 0, none⟩ 1 1 [.bool (isNeg p), .slice A6 (D (nu p)).length c6, .slice B6 (D p.den).length d6] rfl rfl (cells3 _ _ _ _ _ _ _ _ _) (one3 _ _ _ _ _ _ _) (by decide) (by unfold maxLen; omega) (by omega) (by simp; omega) _ rfl ?_; intro g' cv' w7 hown hgrow hat hlt2)
          have hlit := below1 w6 (.cells #[.bool (isNeg p), .slice A6 (D (nu p)).length c6, .slice B6 (D p.den).length d6] 31)
          have HO7 : w7.ownsRow (w.heap.size + 1) 31 3 (.slice (some ⟨g', 0, none⟩) (k + 1) cv') (k + 1) (flat (L ++ [EV.mk (isNeg p) A6 c6 B6 d6 (D (nu p)) (D p.den)])) := by rw [flat_snoc]; exact hown
          have HP7 : PartsRd w7 (some ⟨g', 0, none⟩) (L ++ [EV.mk (isNeg p) A6 c6 B6 d6 (D (nu p)) (D p.den)]) := (HP6.out.on hlit).appended (HS6.out.1.alloc _) hgrow hat
          have hrb := rowed3_below (HS6.out.1.alloc _) (by simp; omega) hgrow
          have HT7 : TpAt w7 w.heap.size 63 (some ⟨b, o, none⟩) n c ot := (hrb.block _ (Nat.lt_succ_self _)).trans (HS6.out.2.2.1.on hlit)
          have HS7 : Hid (RunSt 31 63 w w7 (some ⟨b, o, none⟩) n c ot (some ⟨g', 0, none⟩) (k + 1) cv' (L ++ [EV.mk (isNeg p) A6 c6 B6 d6 (D (nu p)) (D p.den)])) := ⟨HO7, HP7, HT7, (below_on HS6.out.2.2.2 hlit).trans (hrb.mono (Nat.le_succ _))⟩
          clear hown hgrow hat hlt2 hlit HP6 HS6 HO7 HP7 hrb HT7
          go_wp2
          go_roundw
          case rel => exact ⟨k + 1, _, _, _, _, by omega, by go_num, rfl, Lib.hid (HMOR.out hfp), HV6, HS7⟩
          case measure => simp [intOf]; omega
        · have hf2 : 40 < (D (nu p)).length ∨ 40 < (D p.den).length := by unfold fitQ at hfp; omega
          have HRES := Lib.hid (HFUL.out hfp)
          go_wp2_with fail
          refine (l02Fits_no (isNeg p) A9 B9 _ c9 _ d9 v9 (by omega) (by omega) hf2).mono ?_
          rintro e w5 ⟨rfl, b5⟩
          have HB5 := Lib.hid (below_on (HS9.out.on b5).2.2.2 (below1 w5 (.cells #[] 31)))
          clear b5 HR9 HO9 HS9 a0 a1 a2
          go_wp2
          go_ret2
          rw [HRES.out]
          exact ⟨_, 0, rfl, ⟨rfl, Nat.le_refl _, (fun h => by cases h), fun h => absurd h (Nat.lt_irrefl _)⟩, HB5.out⟩
      · have hvm := gv rfl
        obtain ⟨i, rfl⟩ : ∃ i : Nat, xn = i := ⟨xn.toNat, by omega⟩
        obtain ⟨p, hp, hpe⟩ : ∃ p, stepQ qs js (2, xa, xb, (i : Int)) = some p ∧ p = qs.getD i 0 := ⟨qs.getD i 0, by simp only [stepQ, Int.toNat_natCast, Int.reduceEq, ↓reduceIte], rfl⟩
        have him : i < m := by omega
        have hfin := HFI.out.at_ i (by rw [HLX.out]; exact him)
        have lp1 : (D (nu (qs.getD i 0))).length ≤ 16777216 := Nat.le_trans ((D_len_le _ 40).2 hfin.1) (by decide)
        have lp2 : (D (qs.getD i 0).den).length ≤ 16777216 := Nat.le_trans ((D_len_le _ 40).2 hfin.2) (by decide)
        obtain ⟨xb', xo, Ai, ai, Bi, bi, -, -, -, -, rfl, hxl, hc3, -, hrd, -⟩ := ((HX.out.below HS0.out.2.2.2).mono (Q := fun _ => True) fun _ _ _ => trivial).two him him
        rw [← hpe] at lp1 lp2 hc3 hrd
        obtain ⟨e0, e1, e2⟩ := hc3
        have HRD := Lib.hid hrd
        have HI : (i : Int) < m := by omega
        have n3 := HN0.out.c3
        clear hfin hpe hrd
        have f00 := HR0.out.fz 0
        have f01 := HR0.out.fz 1
        have f02 := HR0.out.fz 2
        have y00 := HR0.out.c0
        have y01 := HR0.out.c1
        have y02 := HR0.out.c2
        go_upto_region 24 with fail
        clear n0 n3 e0 e1 e2 f00 f01 f02 y00 y01 y02
        refine wp_at (fun v9 => ∃ (A9 : Option Addr) (c9 : Nat) (B9 : Option Addr) (d9 : Nat), RatAt v9 w1.heap.size 31 (isNeg p) A9 (D (nu p)).length c9 B9 (D p.den).length d9 ∧ RdR v9 (fun _ => True) (D (nu p)) (D p.den) A9 c9 B9 d9 ∧ RunSt 31 63 w v9 (some ⟨b, o, none⟩) n c ot V k cv L) ?_ ?_
        · exact ⟨Ai, ai, Bi, bi, HR0.out.setAll _ _ _ _ _ _ _, ⟨HRD.out.1.past HR0.out (setAll_grown _ _ _ _ _), HRD.out.2.past HR0.out (setAll_grown _ _ _ _ _)⟩, HS0.out.set HR0.out (setAll_grown _ _ _ _ _) hwr hrow⟩
        rintro v9 ⟨A9, c9, B9, d9, r9, o9, s9⟩
        have HR9 := Lib.hid r9
        have HO9 := Lib.hid o9
        have HS9 := Lib.hid s9
        clear r9 o9 s9
        have HFUL := Lib.hid (fun h => HFU.out p hp h)
        have HMOR := Lib.hid (fun h => HMO.out p hp h)
        clear hp HNO HFU HMO HN0 HS0 HR0 HO0 HRDS
        have a0 := HR9.out.c0
        have a1 := HR9.out.c1
        have a2 := HR9.out.c2
        by_cases hfp : fitQ p
        · have hf2 : (D (nu p)).length ≤ 40 ∧ (D p.den).length ≤ 40 := hfp
          go_wp2_with fail
          refine (l02Fits_yes (isNeg p) A9 B9 _ c9 _ d9 v9 hf2.1 hf2.2).mono ?_
          rintro e w5 ⟨rfl, b5⟩
          have HR5 := Lib.hid (HR9.out.on b5)
          have HO5 := Lib.hid (HO9.out.on b5)
          have HS5 := Lib.hid (HS9.out.on b5)
          have a0 := HR5.out.c0
          have a1 := HR5.out.c1
          have a2 := HR5.out.c2
          clear b5 HR9 HO9 HS9
          go_wp2_with fail
          refine (l02Own_new (isNeg p) A9 B9 c9 d9 (D (nu p)) (D p.den) _ w5 HO5.out (by omega) (by omega)).mono ?_
          rintro e w6 ⟨A6, c6, B6, d6, rfl, o6, b6⟩
          have HS6 := Lib.hid (HS5.out.on b6)
          have HP6 : Hid (PartsRd w6 V (L ++ [EV.mk (isNeg p) A6 c6 B6 d6 (D (nu p)) (D p.den)])) := HS6.out.2.1.snoc (o6.mono fun b h _ => row_ne HS5.out.1 (Nat.le_refl _) b h)
          have HV6 : Hid ((L ++ [EV.mk (isNeg p) A6 c6 B6 d6 (D (nu p)) (D p.den)]).map EV.v3 = (js ++ [p]).map rat3) := by
            show _ = _
            rw [List.map_append, HV.out, List.map_append]
            rfl
          have hs6 : w.heap.size + 1 ≤ w6.heap.size := by have := HS6.out.2.2.1.lt; omega
          clear o6 b6 HR5 HO5 HS5 a0 a1 a2
          go_wp2_with (at_builtin; refine wpList_append_lies _ rfl _ _ 27 rfl (w.heap.size + 1) 31 i0 _ 3 56 Tryz.underlying27 hi0 hz0 hz1 hz2 rfl (by decide) _ k _ rfl (HS6.out.1.alloc _) ⟨w6.heap.size, 0, none⟩ 1 1 [.bool (isNeg p), .slice A6 (D (nu p)).length c6, .slice B6 (D p.den).length d6] rfl rfl (cells3 _ _ _ _ _ _ _ _ _) (one3 _ _ _ _ _ _ _) (by decide) (by unfold maxLen; omega) (by omega) (by simp; omega) _ rfl ?_; intro g' cv' w7 hown hgrow hat hlt2)
          have hlit := below1 w6 (.cells #[.bool (isNeg p), .slice A6 (D (nu p)).length c6, .slice B6 (D p.den).length d6] 31)
          have HO7 : w7.ownsRow (w.heap.size + 1) 31 3 (.slice (some ⟨g', 0, none⟩) (k + 1) cv') (k + 1) (flat (L ++ [EV.mk (isNeg p) A6 c6 B6 d6 (D (nu p)) (D p.den)])) := by rw [flat_snoc]; exact hown
          have HP7 : PartsRd w7 (some ⟨g', 0, none⟩) (L ++ [EV.mk (isNeg p) A6 c6 B6 d6 (D (nu p)) (D p.den)]) := (HP6.out.on hlit).appended (HS6.out.1.alloc _) hgrow hat
          have hrb := rowed3_below (HS6.out.1.alloc _) (by simp; omega) hgrow
          have HT7 : TpAt w7 w.heap.size 63 (some ⟨b, o, none⟩) n c ot := (hrb.block _ (Nat.lt_succ_self _)).trans (HS6.out.2.2.1.on hlit)
          have HS7 : Hid (RunSt 31 63 w w7 (some ⟨b, o, none⟩) n c ot (some ⟨g', 0, none⟩) (k + 1) cv' (L ++ [EV.mk (isNeg p) A6 c6 B6 d6 (D (nu p)) (D p.den)])) := ⟨HO7, HP7, HT7, (below_on HS6.out.2.2.2 hlit).trans (hrb.mono (Nat.le_succ _))⟩
          clear hown hgrow hat hlt2 hlit HP6 HS6 HO7 HP7 hrb HT7
          go_wp2
          go_roundw
          case rel => exact ⟨k + 1, _, _, _, _, by omega, by go_num, rfl, Lib.hid (HMOR.out hfp), HV6, HS7⟩
          case measure => simp [intOf]; omega
        · have hf2 : 40 < (D (nu p)).length ∨ 40 < (D p.den).length := by unfold fitQ at hfp; omega
          have HRES := Lib.hid (HFUL.out hfp)
          go_wp2_with fail
          refine (l02Fits_no (isNeg p) A9 B9 _ c9 _ d9 v9 (by omega) (by omega) hf2).mono ?_
          rintro e w5 ⟨rfl, b5⟩
          have HB5 := Lib.hid (below_on (HS9.out.on b5).2.2.2 (below1 w5 (.cells #[] 31)))
          clear b5 HR9 HO9 HS9 a0 a1 a2
          go_wp2
          go_ret2
          rw [HRES.out]
          exact ⟨_, 0, rfl, ⟨rfl, Nat.le_refl _, (fun h => by cases h), fun h => absurd h (Nat.lt_irrefl _)⟩, HB5.out⟩
      · have hb1 : (0 ≤ xa ∧ xa < k) ∧ 0 ≤ xb ∧ xb < k := by
          simp [two, one] at gb1 gb2
          omega
        obtain ⟨i, rfl⟩ : ∃ i : Nat, xa = i := ⟨xa.toNat, by omega⟩
        obtain ⟨l, rfl⟩ : ∃ l : Nat, xb = l := ⟨xb.toNat, by omega⟩
        have hi : i < k := by omega
        have hl : l < k := by omega
        have HI : (i : Int) < k := by omega
        have HL : (l : Int) < k := by omega
        have hfi := getD_fit HJF.out.2 i (by rw [HJF.out.1]; exact hi)
        have hfl := getD_fit HJF.out.2 l (by rw [HJF.out.1]; exact hl)
        obtain ⟨vb, vo, Ai, ai, Bi, bi, Al, al, Bl, bl, hV, hvl, hci, hcl, hri, hrl⟩ := HRDS.out.two hi hl
        have hvr : vb ≠ w1.heap.size := by
          rcases HS0.out.1.2 with ⟨e, _⟩ | ⟨z, cap, cur, e, _⟩
          · injection e with e; rw [hV] at e; cases e
          · injection e with e; rw [hV] at e; injection e with e; injection e with e1 e2; exact e1 ▸ hrow z (by rw [hV]; simp [e1, e2] )
        obtain ⟨p, hp, hpe⟩ : ∃ p, stepQ qs js (3, (i : Int), (l : Int), xn) = some p ∧ p = js.getD i 0 + js.getD l 0 := ⟨js.getD i 0 + js.getD l 0, by simp only [stepQ, Int.toNat_natCast, Int.reduceEq, ↓reduceIte], rfl⟩
        have HH0 : Hid (HeldQ v0 wr.heap.size 127 (3, (i : Int), (l : Int), xn) vb (vo + i * 3) (vo + l * 3) (isNeg (js.getD i 0)) Ai (D (nu (js.getD i 0))).length ai Bi (D (js.getD i 0).den).length bi (isNeg (js.getD l 0)) Al (D (nu (js.getD l 0))).length al Bl (D (js.getD l 0).den).length bl) := ⟨HN0.out, hvl, hci, hcl⟩
        generalize js.getD i 0 = f at *
        generalize js.getD l 0 = g at *
        have hlp : lim p 16777216 := by rw [hpe]; exact lim_mono (lim_add (show lim f 40 from hfi) (show lim g 40 from hfl)) (by decide)
        obtain ⟨lp1, lp2⟩ := hlp
        have HRI := Lib.hid hri
        have HRL := Lib.hid hrl
        subst hV
        clear hci hcl hri hrl
        have HCALL := Lib.hid (fun (W : World) (h1 : RdR W (fun _ => True) (D (nu f)) (D f.den) Ai ai Bi bi) (h2 : RdR W (fun _ => True) (D (nu g)) (D g.den) Al al Bl bl) => l02Add_any f g Ai Bi ai bi Al Bl al bl _ _ W h1 h2 (by omega) (by omega) (by omega) (by omega))
        rw [← hpe] at HCALL
        clear hpe
        go_upto_region 13 with fail
        clear n0
        go_region_held3 (fun wx => (wx.cell? ⟨wr.heap.size, 0, none⟩ = some (.int .i64 3) ∧ wx.cell? ⟨wr.heap.size, 1, none⟩ = some (.int .i64 (i : Int)) ∧ wx.cell? ⟨wr.heap.size, 2, none⟩ = some (.int .i64 (l : Int)) ∧ wx.cell? ⟨wr.heap.size, 3, none⟩ = some (.int .i64 xn)) ∧ (wx.cell? ⟨vb, vo + i * 3, none⟩ = some (.bool (isNeg f)) ∧ wx.cell? ⟨vb, vo + i * 3 + 1, none⟩ = some (.slice Ai (D (nu f)).length ai) ∧ wx.cell? ⟨vb, vo + i * 3 + 2, none⟩ = some (.slice Bi (D f.den).length bi)) ∧ (wx.cell? ⟨vb, vo + l * 3, none⟩ = some (.bool (isNeg g)) ∧ wx.cell? ⟨vb, vo + l * 3 + 1, none⟩ = some (.slice Al (D (nu g)).length al) ∧ wx.cell? ⟨vb, vo + l * 3 + 2, none⟩ = some (.slice Bl (D g.den).length bl)))
          (first | with_reducible exact HH0.out.cells | with_reducible exact HH2.out.cells | exact HH0.out.cells | exact HH2.out.cells | exact (HH2.out.grown (setAll_grown _ _ _ _ _) hnr hvr).cells)
          (first
            | (go_at_call 107; refine (HCALL.out _ (by first | exact HRI.out | exact HRI.out.on (below_drewN (Below.refl _ _) 1)) (by first | exact HRL.out | exact HRL.out.on (below_drewN (Below.refl _ _) 1))).mono ?_; rintro e w2 ⟨A2, c2, B2, d2, rfl, o2, b2⟩; have b2 := undrew b2; have HS2 := Lib.hid (HS0.out.on b2); have HH2 := Lib.hid (HH0.out.on b2); have HR2 := Lib.hid (HR0.out.on b2); have HO2 := Lib.hid o2; have f20 := HR2.out.fz 0; have f21 := HR2.out.fz 1; have f22 := HR2.out.fz 2; have y20 := HR2.out.c0; have y21 := HR2.out.c1; have y22 := HR2.out.c2; clear o2 b2))
        go_upto_region 24 with fail
        clear f20 f21 f22 y20 y21 y22 HH0 HH2
        refine wp_at (fun v9 => ∃ (A9 : Option Addr) (c9 : Nat) (B9 : Option Addr) (d9 : Nat), RatAt v9 w1.heap.size 31 (isNeg p) A9 (D (nu p)).length c9 B9 (D p.den).length d9 ∧ RdR v9 (fun _ => True) (D (nu p)) (D p.den) A9 c9 B9 d9 ∧ RunSt 31 63 w v9 (some ⟨b, o, none⟩) n c ot (some ⟨vb, vo, none⟩) k cv L) ?_ ?_
        · exact ⟨A2, c2, B2, d2, HR2.out.setAll _ _ _ _ _ _ _, ⟨HO2.out.1.past HR2.out (setAll_grown _ _ _ _ _), HO2.out.2.past HR2.out (setAll_grown _ _ _ _ _)⟩, HS2.out.set HR2.out (setAll_grown _ _ _ _ _) hwr hrow⟩
        rintro v9 ⟨A9, c9, B9, d9, r9, o9, s9⟩
        have HR9 := Lib.hid r9
        have HO9 := Lib.hid o9
        have HS9 := Lib.hid s9
        clear r9 o9 s9
        have HFUL := Lib.hid (fun h => HFU.out p hp h)
        have HMOR := Lib.hid (fun h => HMO.out p hp h)
        clear hp HNO HFU HMO HN0 HS0 HR0 HO0 HRDS
        have a0 := HR9.out.c0
        have a1 := HR9.out.c1
        have a2 := HR9.out.c2
        by_cases hfp : fitQ p
        · have hf2 : (D (nu p)).length ≤ 40 ∧ (D p.den).length ≤ 40 := hfp
          go_wp2_with fail
          refine (l02Fits_yes (isNeg p) A9 B9 _ c9 _ d9 v9 hf2.1 hf2.2).mono ?_
          rintro e w5 ⟨rfl, b5⟩
          have HR5 := Lib.hid (HR9.out.on b5)
          have HO5 := Lib.hid (HO9.out.on b5)
          have HS5 := Lib.hid (HS9.out.on b5)
          have a0 := HR5.out.c0
          have a1 := HR5.out.c1
          have a2 := HR5.out.c2
          clear b5 HR9 HO9 HS9
          go_wp2_with fail
          refine (l02Own_new (isNeg p) A9 B9 c9 d9 (D (nu p)) (D p.den) _ w5 HO5.out (by omega) (by omega)).mono ?_
          rintro e w6 ⟨A6, c6, B6, d6, rfl, o6, b6⟩
          have HS6 := Lib.hid (HS5.out.on b6)
          have HP6 : Hid (PartsRd w6 (some ⟨vb, vo, none⟩) (L ++ [EV.mk (isNeg p) A6 c6 B6 d6 (D (nu p)) (D p.den)])) := HS6.out.2.1.snoc (o6.mono fun b h _ => row_ne HS5.out.1 (Nat.le_refl _) b h)
          have HV6 : Hid ((L ++ [EV.mk (isNeg p) A6 c6 B6 d6 (D (nu p)) (D p.den)]).map EV.v3 = (js ++ [p]).map rat3) := by
            show _ = _
            rw [List.map_append, HV.out, List.map_append]
            rfl
          have hs6 : w.heap.size + 1 ≤ w6.heap.size := by have := HS6.out.2.2.1.lt; omega
          clear o6 b6 HR5 HO5 HS5 a0 a1 a2
          go_wp2_with (at_builtin; refine wpList_append_lies _ rfl _ _ 27 rfl (w.heap.size + 1) 31 i0 _ 3 56 Tryz.underlying27 hi0 hz0 hz1 hz2 rfl (by decide) _ k _ rfl (HS6.out.1.alloc _) ⟨w6.heap.size, 0, none⟩ 1 1 [.bool (isNeg p), .slice A6 (D (nu p)).length c6, .slice B6 (D p.den).length d6] rfl rfl (cells3 _ _ _ _ _ _ _ _ _) (one3 _ _ _ _ _ _ _) (by decide) (by unfold maxLen; omega) (by omega) (by simp; omega) _ rfl ?_; intro g' cv' w7 hown hgrow hat hlt2)
          have hlit := below1 w6 (.cells #[.bool (isNeg p), .slice A6 (D (nu p)).length c6, .slice B6 (D p.den).length d6] 31)
          have HO7 : w7.ownsRow (w.heap.size + 1) 31 3 (.slice (some ⟨g', 0, none⟩) (k + 1) cv') (k + 1) (flat (L ++ [EV.mk (isNeg p) A6 c6 B6 d6 (D (nu p)) (D p.den)])) := by rw [flat_snoc]; exact hown
          have HP7 : PartsRd w7 (some ⟨g', 0, none⟩) (L ++ [EV.mk (isNeg p) A6 c6 B6 d6 (D (nu p)) (D p.den)]) := (HP6.out.on hlit).appended (HS6.out.1.alloc _) hgrow hat
          have hrb := rowed3_below (HS6.out.1.alloc _) (by simp; omega) hgrow
          have HT7 : TpAt w7 w.heap.size 63 (some ⟨b, o, none⟩) n c ot := (hrb.block _ (Nat.lt_succ_self _)).trans (HS6.out.2.2.1.on hlit)
          have HS7 : Hid (RunSt 31 63 w w7 (some ⟨b, o, none⟩) n c ot (some ⟨g', 0, none⟩) (k + 1) cv' (L ++ [EV.mk (isNeg p) A6 c6 B6 d6 (D (nu p)) (D p.den)])) := ⟨HO7, HP7, HT7, (below_on HS6.out.2.2.2 hlit).trans (hrb.mono (Nat.le_succ _))⟩
          clear hown hgrow hat hlt2 hlit HP6 HS6 HO7 HP7 hrb HT7
          go_wp2
          go_roundw
          case rel => exact ⟨k + 1, _, _, _, _, by omega, by go_num, rfl, Lib.hid (HMOR.out hfp), HV6, HS7⟩
          case measure => simp [intOf]; omega
        · have hf2 : 40 < (D (nu p)).length ∨ 40 < (D p.den).length := by unfold fitQ at hfp; omega
          have HRES := Lib.hid (HFUL.out hfp)
          go_wp2_with fail
          refine (l02Fits_no (isNeg p) A9 B9 _ c9 _ d9 v9 (by omega) (by omega) hf2).mono ?_
          rintro e w5 ⟨rfl, b5⟩
          have HB5 := Lib.hid (below_on (HS9.out.on b5).2.2.2 (below1 w5 (.cells #[] 31)))
          clear b5 HR9 HO9 HS9 a0 a1 a2
          go_wp2
          go_ret2
          rw [HRES.out]
          exact ⟨_, 0, rfl, ⟨rfl, Nat.le_refl _, (fun h => by cases h), fun h => absurd h (Nat.lt_irrefl _)⟩, HB5.out⟩
      · have hb1 : (0 ≤ xa ∧ xa < k) ∧ 0 ≤ xb ∧ xb < k := by
          simp [two, one] at gb1 gb2
          omega
        obtain ⟨i, rfl⟩ : ∃ i : Nat, xa = i := ⟨xa.toNat, by omega⟩
        obtain ⟨l, rfl⟩ : ∃ l : Nat, xb = l := ⟨xb.toNat, by omega⟩
        have hi : i < k := by omega
        have hl : l < k := by omega
        have HI : (i : Int) < k := by omega
        have HL : (l : Int) < k := by omega
        have hfi := getD_fit HJF.out.2 i (by rw [HJF.out.1]; exact hi)
        have hfl := getD_fit HJF.out.2 l (by rw [HJF.out.1]; exact hl)
        obtain ⟨vb, vo, Ai, ai, Bi, bi, Al, al, Bl, bl, hV, hvl, hci, hcl, hri, hrl⟩ := HRDS.out.two hi hl
        have hvr : vb ≠ w1.heap.size := by
          rcases HS0.out.1.2 with ⟨e, _⟩ | ⟨z, cap, cur, e, _⟩
          · injection e with e; rw [hV] at e; cases e
          · injection e with e; rw [hV] at e; injection e with e; injection e with e1 e2; exact e1 ▸ hrow z (by rw [hV]; simp [e1, e2] )
        obtain ⟨p, hp, hpe⟩ : ∃ p, stepQ qs js (4, (i : Int), (l : Int), xn) = some p ∧ p = js.getD i 0 - js.getD l 0 := ⟨js.getD i 0 - js.getD l 0, by simp only [stepQ, Int.toNat_natCast, Int.reduceEq, ↓reduceIte], rfl⟩
        have HH0 : Hid (HeldQ v0 wr.heap.size 127 (4, (i : Int), (l : Int), xn) vb (vo + i * 3) (vo + l * 3) (isNeg (js.getD i 0)) Ai (D (nu (js.getD i 0))).length ai Bi (D (js.getD i 0).den).length bi (isNeg (js.getD l 0)) Al (D (nu (js.getD l 0))).length al Bl (D (js.getD l 0).den).length bl) := ⟨HN0.out, hvl, hci, hcl⟩
        generalize js.getD i 0 = f at *
        generalize js.getD l 0 = g at *
        have hlp : lim p 16777216 := by rw [hpe]; exact lim_mono (lim_sub (show lim f 40 from hfi) (show lim g 40 from hfl)) (by decide)
        obtain ⟨lp1, lp2⟩ := hlp
        have HRI := Lib.hid hri
        have HRL := Lib.hid hrl
        subst hV
        clear hci hcl hri hrl
        have HCALL := Lib.hid (fun (W : World) (h1 : RdR W (fun _ => True) (D (nu f)) (D f.den) Ai ai Bi bi) (h2 : RdR W (fun _ => True) (D (nu g)) (D g.den) Al al Bl bl) => l02Sub_any f g Ai Bi ai bi Al Bl al bl _ _ W h1 h2 (by omega) (by omega) (by omega) (by omega))
        rw [← hpe] at HCALL
        clear hpe
        go_upto_region 15 with fail
        clear n0
        go_region_held3 (fun wx => (wx.cell? ⟨wr.heap.size, 0, none⟩ = some (.int .i64 4) ∧ wx.cell? ⟨wr.heap.size, 1, none⟩ = some (.int .i64 (i : Int)) ∧ wx.cell? ⟨wr.heap.size, 2, none⟩ = some (.int .i64 (l : Int)) ∧ wx.cell? ⟨wr.heap.size, 3, none⟩ = some (.int .i64 xn)) ∧ (wx.cell? ⟨vb, vo + i * 3, none⟩ = some (.bool (isNeg f)) ∧ wx.cell? ⟨vb, vo + i * 3 + 1, none⟩ = some (.slice Ai (D (nu f)).length ai) ∧ wx.cell? ⟨vb, vo + i * 3 + 2, none⟩ = some (.slice Bi (D f.den).length bi)) ∧ (wx.cell? ⟨vb, vo + l * 3, none⟩ = some (.bool (isNeg g)) ∧ wx.cell? ⟨vb, vo + l * 3 + 1, none⟩ = some (.slice Al (D (nu g)).length al) ∧ wx.cell? ⟨vb, vo + l * 3 + 2, none⟩ = some (.slice Bl (D g.den).length bl)))
          (first | with_reducible exact HH0.out.cells | with_reducible exact HH2.out.cells | exact HH0.out.cells | exact HH2.out.cells | exact (HH2.out.grown (setAll_grown _ _ _ _ _) hnr hvr).cells)
          (first
            | (go_at_call 108; refine (HCALL.out _ (by first | exact HRI.out | exact HRI.out.on (below_drewN (Below.refl _ _) 1)) (by first | exact HRL.out | exact HRL.out.on (below_drewN (Below.refl _ _) 1))).mono ?_; rintro e w2 ⟨A2, c2, B2, d2, rfl, o2, b2⟩; have b2 := undrew b2; have HS2 := Lib.hid (HS0.out.on b2); have HH2 := Lib.hid (HH0.out.on b2); have HR2 := Lib.hid (HR0.out.on b2); have HO2 := Lib.hid o2; have f20 := HR2.out.fz 0; have f21 := HR2.out.fz 1; have f22 := HR2.out.fz 2; have y20 := HR2.out.c0; have y21 := HR2.out.c1; have y22 := HR2.out.c2; clear o2 b2))
        go_upto_region 24 with fail
        clear f20 f21 f22 y20 y21 y22 HH0 HH2
        refine wp_at (fun v9 => ∃ (A9 : Option Addr) (c9 : Nat) (B9 : Option Addr) (d9 : Nat), RatAt v9 w1.heap.size 31 (isNeg p) A9 (D (nu p)).length c9 B9 (D p.den).length d9 ∧ RdR v9 (fun _ => True) (D (nu p)) (D p.den) A9 c9 B9 d9 ∧ RunSt 31 63 w v9 (some ⟨b, o, none⟩) n c ot (some ⟨vb, vo, none⟩) k cv L) ?_ ?_
        · exact ⟨A2, c2, B2, d2, HR2.out.setAll _ _ _ _ _ _ _, ⟨HO2.out.1.past HR2.out (setAll_grown _ _ _ _ _), HO2.out.2.past HR2.out (setAll_grown _ _ _ _ _)⟩, HS2.out.set HR2.out (setAll_grown _ _ _ _ _) hwr hrow⟩
        rintro v9 ⟨A9, c9, B9, d9, r9, o9, s9⟩
        have HR9 := Lib.hid r9
        have HO9 := Lib.hid o9
        have HS9 := Lib.hid s9
        clear r9 o9 s9
        have HFUL := Lib.hid (fun h => HFU.out p hp h)
        have HMOR := Lib.hid (fun h => HMO.out p hp h)
        clear hp HNO HFU HMO HN0 HS0 HR0 HO0 HRDS
        have a0 := HR9.out.c0
        have a1 := HR9.out.c1
        have a2 := HR9.out.c2
        by_cases hfp : fitQ p
        · have hf2 : (D (nu p)).length ≤ 40 ∧ (D p.den).length ≤ 40 := hfp
          go_wp2_with fail
          refine (l02Fits_yes (isNeg p) A9 B9 _ c9 _ d9 v9 hf2.1 hf2.2).mono ?_
          rintro e w5 ⟨rfl, b5⟩
          have HR5 := Lib.hid (HR9.out.on b5)
          have HO5 := Lib.hid (HO9.out.on b5)
          have HS5 := Lib.hid (HS9.out.on b5)
          have a0 := HR5.out.c0
          have a1 := HR5.out.c1
          have a2 := HR5.out.c2
          clear b5 HR9 HO9 HS9
          go_wp2_with fail
          refine (l02Own_new (isNeg p) A9 B9 c9 d9 (D (nu p)) (D p.den) _ w5 HO5.out (by omega) (by omega)).mono ?_
          rintro e w6 ⟨A6, c6, B6, d6, rfl, o6, b6⟩
          have HS6 := Lib.hid (HS5.out.on b6)
          have HP6 : Hid (PartsRd w6 (some ⟨vb, vo, none⟩) (L ++ [EV.mk (isNeg p) A6 c6 B6 d6 (D (nu p)) (D p.den)])) := HS6.out.2.1.snoc (o6.mono fun b h _ => row_ne HS5.out.1 (Nat.le_refl _) b h)
          have HV6 : Hid ((L ++ [EV.mk (isNeg p) A6 c6 B6 d6 (D (nu p)) (D p.den)]).map EV.v3 = (js ++ [p]).map rat3) := by
            show _ = _
            rw [List.map_append, HV.out, List.map_append]
            rfl
          have hs6 : w.heap.size + 1 ≤ w6.heap.size := by have := HS6.out.2.2.1.lt; omega
          clear o6 b6 HR5 HO5 HS5 a0 a1 a2
          go_wp2_with (at_builtin; refine wpList_append_lies _ rfl _ _ 27 rfl (w.heap.size + 1) 31 i0 _ 3 56 Tryz.underlying27 hi0 hz0 hz1 hz2 rfl (by decide) _ k _ rfl (HS6.out.1.alloc _) ⟨w6.heap.size, 0, none⟩ 1 1 [.bool (isNeg p), .slice A6 (D (nu p)).length c6, .slice B6 (D p.den).length d6] rfl rfl (cells3 _ _ _ _ _ _ _ _ _) (one3 _ _ _ _ _ _ _) (by decide) (by unfold maxLen; omega) (by omega) (by simp; omega) _ rfl ?_; intro g' cv' w7 hown hgrow hat hlt2)
          have hlit := below1 w6 (.cells #[.bool (isNeg p), .slice A6 (D (nu p)).length c6, .slice B6 (D p.den).length d6] 31)
          have HO7 : w7.ownsRow (w.heap.size + 1) 31 3 (.slice (some ⟨g', 0, none⟩) (k + 1) cv') (k + 1) (flat (L ++ [EV.mk (isNeg p) A6 c6 B6 d6 (D (nu p)) (D p.den)])) := by rw [flat_snoc]; exact hown
          have HP7 : PartsRd w7 (some ⟨g', 0, none⟩) (L ++ [EV.mk (isNeg p) A6 c6 B6 d6 (D (nu p)) (D p.den)]) := (HP6.out.on hlit).appended (HS6.out.1.alloc _) hgrow hat
          have hrb := rowed3_below (HS6.out.1.alloc _) (by simp; omega) hgrow
          have HT7 : TpAt w7 w.heap.size 63 (some ⟨b, o, none⟩) n c ot := (hrb.block _ (Nat.lt_succ_self _)).trans (HS6.out.2.2.1.on hlit)
          have HS7 : Hid (RunSt 31 63 w w7 (some ⟨b, o, none⟩) n c ot (some ⟨g', 0, none⟩) (k + 1) cv' (L ++ [EV.mk (isNeg p) A6 c6 B6 d6 (D (nu p)) (D p.den)])) := ⟨HO7, HP7, HT7, (below_on HS6.out.2.2.2 hlit).trans (hrb.mono (Nat.le_succ _))⟩
          clear hown hgrow hat hlt2 hlit HP6 HS6 HO7 HP7 hrb HT7
          go_wp2
          go_roundw
          case rel => exact ⟨k + 1, _, _, _, _, by omega, by go_num, rfl, Lib.hid (HMOR.out hfp), HV6, HS7⟩
          case measure => simp [intOf]; omega
        · have hf2 : 40 < (D (nu p)).length ∨ 40 < (D p.den).length := by unfold fitQ at hfp; omega
          have HRES := Lib.hid (HFUL.out hfp)
          go_wp2_with fail
          refine (l02Fits_no (isNeg p) A9 B9 _ c9 _ d9 v9 (by omega) (by omega) hf2).mono ?_
          rintro e w5 ⟨rfl, b5⟩
          have HB5 := Lib.hid (below_on (HS9.out.on b5).2.2.2 (below1 w5 (.cells #[] 31)))
          clear b5 HR9 HO9 HS9 a0 a1 a2
          go_wp2
          go_ret2
          rw [HRES.out]
          exact ⟨_, 0, rfl, ⟨rfl, Nat.le_refl _, (fun h => by cases h), fun h => absurd h (Nat.lt_irrefl _)⟩, HB5.out⟩
      · have hb1 : (0 ≤ xa ∧ xa < k) ∧ 0 ≤ xb ∧ xb < k := by
          simp [two, one] at gb1 gb2
          omega
        obtain ⟨i, rfl⟩ : ∃ i : Nat, xa = i := ⟨xa.toNat, by omega⟩
        obtain ⟨l, rfl⟩ : ∃ l : Nat, xb = l := ⟨xb.toNat, by omega⟩
        have hi : i < k := by omega
        have hl : l < k := by omega
        have HI : (i : Int) < k := by omega
        have HL : (l : Int) < k := by omega
        have hfi := getD_fit HJF.out.2 i (by rw [HJF.out.1]; exact hi)
        have hfl := getD_fit HJF.out.2 l (by rw [HJF.out.1]; exact hl)
        obtain ⟨vb, vo, Ai, ai, Bi, bi, Al, al, Bl, bl, hV, hvl, hci, hcl, hri, hrl⟩ := HRDS.out.two hi hl
        have hvr : vb ≠ w1.heap.size := by
          rcases HS0.out.1.2 with ⟨e, _⟩ | ⟨z, cap, cur, e, _⟩
          · injection e with e; rw [hV] at e; cases e
          · injection e with e; rw [hV] at e; injection e with e; injection e with e1 e2; exact e1 ▸ hrow z (by rw [hV]; simp [e1, e2] )
        obtain ⟨p, hp, hpe⟩ : ∃ p, stepQ qs js (5, (i : Int), (l : Int), xn) = some p ∧ p = js.getD i 0 * js.getD l 0 := ⟨js.getD i 0 * js.getD l 0, by simp only [stepQ, Int.toNat_natCast, Int.reduceEq, ↓reduceIte], rfl⟩
        have HH0 : Hid (HeldQ v0 wr.heap.size 127 (5, (i : Int), (l : Int), xn) vb (vo + i * 3) (vo + l * 3) (isNeg (js.getD i 0)) Ai (D (nu (js.getD i 0))).length ai Bi (D (js.getD i 0).den).length bi (isNeg (js.getD l 0)) Al (D (nu (js.getD l 0))).length al Bl (D (js.getD l 0).den).length bl) := ⟨HN0.out, hvl, hci, hcl⟩
        generalize js.getD i 0 = f at *
        generalize js.getD l 0 = g at *
        have hlp : lim p 16777216 := by rw [hpe]; exact lim_mono (lim_mul (show lim f 40 from hfi) (show lim g 40 from hfl)) (by decide)
        obtain ⟨lp1, lp2⟩ := hlp
        have HRI := Lib.hid hri
        have HRL := Lib.hid hrl
        subst hV
        clear hci hcl hri hrl
        have HCALL := Lib.hid (fun (W : World) (h1 : RdR W (fun _ => True) (D (nu f)) (D f.den) Ai ai Bi bi) (h2 : RdR W (fun _ => True) (D (nu g)) (D g.den) Al al Bl bl) => l02Mul_any f g Ai Bi ai bi Al Bl al bl _ _ W h1 h2 (by omega) (by omega) (by omega) (by omega))
        rw [← hpe] at HCALL
        clear hpe
        go_upto_region 17 with fail
        clear n0
        go_region_held3 (fun wx => (wx.cell? ⟨wr.heap.size, 0, none⟩ = some (.int .i64 5) ∧ wx.cell? ⟨wr.heap.size, 1, none⟩ = some (.int .i64 (i : Int)) ∧ wx.cell? ⟨wr.heap.size, 2, none⟩ = some (.int .i64 (l : Int)) ∧ wx.cell? ⟨wr.heap.size, 3, none⟩ = some (.int .i64 xn)) ∧ (wx.cell? ⟨vb, vo + i * 3, none⟩ = some (.bool (isNeg f)) ∧ wx.cell? ⟨vb, vo + i * 3 + 1, none⟩ = some (.slice Ai (D (nu f)).length ai) ∧ wx.cell? ⟨vb, vo + i * 3 + 2, none⟩ = some (.slice Bi (D f.den).length bi)) ∧ (wx.cell? ⟨vb, vo + l * 3, none⟩ = some (.bool (isNeg g)) ∧ wx.cell? ⟨vb, vo + l * 3 + 1, none⟩ = some (.slice Al (D (nu g)).length al) ∧ wx.cell? ⟨vb, vo + l * 3 + 2, none⟩ = some (.slice Bl (D g.den).length bl)))
          (first | with_reducible exact HH0.out.cells | with_reducible exact HH2.out.cells | exact HH0.out.cells | exact HH2.out.cells | exact (HH2.out.grown (setAll_grown _ _ _ _ _) hnr hvr).cells)
          (first
            | (go_at_call 109; refine (HCALL.out _ (by first | exact HRI.out | exact HRI.out.on (below_drewN (Below.refl _ _) 1)) (by first | exact HRL.out | exact HRL.out.on (below_drewN (Below.refl _ _) 1))).mono ?_; rintro e w2 ⟨A2, c2, B2, d2, rfl, o2, b2⟩; have b2 := undrew b2; have HS2 := Lib.hid (HS0.out.on b2); have HH2 := Lib.hid (HH0.out.on b2); have HR2 := Lib.hid (HR0.out.on b2); have HO2 := Lib.hid o2; have f20 := HR2.out.fz 0; have f21 := HR2.out.fz 1; have f22 := HR2.out.fz 2; have y20 := HR2.out.c0; have y21 := HR2.out.c1; have y22 := HR2.out.c2; clear o2 b2))
        go_upto_region 24 with fail
        clear f20 f21 f22 y20 y21 y22 HH0 HH2
        refine wp_at (fun v9 => ∃ (A9 : Option Addr) (c9 : Nat) (B9 : Option Addr) (d9 : Nat), RatAt v9 w1.heap.size 31 (isNeg p) A9 (D (nu p)).length c9 B9 (D p.den).length d9 ∧ RdR v9 (fun _ => True) (D (nu p)) (D p.den) A9 c9 B9 d9 ∧ RunSt 31 63 w v9 (some ⟨b, o, none⟩) n c ot (some ⟨vb, vo, none⟩) k cv L) ?_ ?_
        · exact ⟨A2, c2, B2, d2, HR2.out.setAll _ _ _ _ _ _ _, ⟨HO2.out.1.past HR2.out (setAll_grown _ _ _ _ _), HO2.out.2.past HR2.out (setAll_grown _ _ _ _ _)⟩, HS2.out.set HR2.out (setAll_grown _ _ _ _ _) hwr hrow⟩
        rintro v9 ⟨A9, c9, B9, d9, r9, o9, s9⟩
        have HR9 := Lib.hid r9
        have HO9 := Lib.hid o9
        have HS9 := Lib.hid s9
        clear r9 o9 s9
        have HFUL := Lib.hid (fun h => HFU.out p hp h)
        have HMOR := Lib.hid (fun h => HMO.out p hp h)
        clear hp HNO HFU HMO HN0 HS0 HR0 HO0 HRDS
        have a0 := HR9.out.c0
        have a1 := HR9.out.c1
        have a2 := HR9.out.c2
        by_cases hfp : fitQ p
        · have hf2 : (D (nu p)).length ≤ 40 ∧ (D p.den).length ≤ 40 := hfp
          go_wp2_with fail
          refine (l02Fits_yes (isNeg p) A9 B9 _ c9 _ d9 v9 hf2.1 hf2.2).mono ?_
          rintro e w5 ⟨rfl, b5⟩
          have HR5 := Lib.hid (HR9.out.on b5)
          have HO5 := Lib.hid (HO9.out.on b5)
          have HS5 := Lib.hid (HS9.out.on b5)
          have a0 := HR5.out.c0
          have a1 := HR5.out.c1
          have a2 := HR5.out.c2
          clear b5 HR9 HO9 HS9
          go_wp2_with fail
          refine (l02Own_new (isNeg p) A9 B9 c9 d9 (D (nu p)) (D p.den) _ w5 HO5.out (by omega) (by omega)).mono ?_
          rintro e w6 ⟨A6, c6, B6, d6, rfl, o6, b6⟩
          have HS6 := Lib.hid (HS5.out.on b6)
          have HP6 : Hid (PartsRd w6 (some ⟨vb, vo, none⟩) (L ++ [EV.mk (isNeg p) A6 c6 B6 d6 (D (nu p)) (D p.den)])) := HS6.out.2.1.snoc (o6.mono fun b h _ => row_ne HS5.out.1 (Nat.le_refl _) b h)
          have HV6 : Hid ((L ++ [EV.mk (isNeg p) A6 c6 B6 d6 (D (nu p)) (D p.den)]).map EV.v3 = (js ++ [p]).map rat3) := by
            show _ = _
            rw [List.map_append, HV.out, List.map_append]
            rfl
          have hs6 : w.heap.size + 1 ≤ w6.heap.size := by have := HS6.out.2.2.1.lt; omega
          clear o6 b6 HR5 HO5 HS5 a0 a1 a2
          go_wp2_with (at_builtin; refine wpList_append_lies _ rfl _ _ 27 rfl (w.heap.size + 1) 31 i0 _ 3 56 Tryz.underlying27 hi0 hz0 hz1 hz2 rfl (by decide) _ k _ rfl (HS6.out.1.alloc _) ⟨w6.heap.size, 0, none⟩ 1 1 [.bool (isNeg p), .slice A6 (D (nu p)).length c6, .slice B6 (D p.den).length d6] rfl rfl (cells3 _ _ _ _ _ _ _ _ _) (one3 _ _ _ _ _ _ _) (by decide) (by unfold maxLen; omega) (by omega) (by simp; omega) _ rfl ?_; intro g' cv' w7 hown hgrow hat hlt2)
          have hlit := below1 w6 (.cells #[.bool (isNeg p), .slice A6 (D (nu p)).length c6, .slice B6 (D p.den).length d6] 31)
          have HO7 : w7.ownsRow (w.heap.size + 1) 31 3 (.slice (some ⟨g', 0, none⟩) (k + 1) cv') (k + 1) (flat (L ++ [EV.mk (isNeg p) A6 c6 B6 d6 (D (nu p)) (D p.den)])) := by rw [flat_snoc]; exact hown
          have HP7 : PartsRd w7 (some ⟨g', 0, none⟩) (L ++ [EV.mk (isNeg p) A6 c6 B6 d6 (D (nu p)) (D p.den)]) := (HP6.out.on hlit).appended (HS6.out.1.alloc _) hgrow hat
          have hrb := rowed3_below (HS6.out.1.alloc _) (by simp; omega) hgrow
          have HT7 : TpAt w7 w.heap.size 63 (some ⟨b, o, none⟩) n c ot := (hrb.block _ (Nat.lt_succ_self _)).trans (HS6.out.2.2.1.on hlit)
          have HS7 : Hid (RunSt 31 63 w w7 (some ⟨b, o, none⟩) n c ot (some ⟨g', 0, none⟩) (k + 1) cv' (L ++ [EV.mk (isNeg p) A6 c6 B6 d6 (D (nu p)) (D p.den)])) := ⟨HO7, HP7, HT7, (below_on HS6.out.2.2.2 hlit).trans (hrb.mono (Nat.le_succ _))⟩
          clear hown hgrow hat hlt2 hlit HP6 HS6 HO7 HP7 hrb HT7
          go_wp2
          go_roundw
          case rel => exact ⟨k + 1, _, _, _, _, by omega, by go_num, rfl, Lib.hid (HMOR.out hfp), HV6, HS7⟩
          case measure => simp [intOf]; omega
        · have hf2 : 40 < (D (nu p)).length ∨ 40 < (D p.den).length := by unfold fitQ at hfp; omega
          have HRES := Lib.hid (HFUL.out hfp)
          go_wp2_with fail
          refine (l02Fits_no (isNeg p) A9 B9 _ c9 _ d9 v9 (by omega) (by omega) hf2).mono ?_
          rintro e w5 ⟨rfl, b5⟩
          have HB5 := Lib.hid (below_on (HS9.out.on b5).2.2.2 (below1 w5 (.cells #[] 31)))
          clear b5 HR9 HO9 HS9 a0 a1 a2
          go_wp2
          go_ret2
          rw [HRES.out]
          exact ⟨_, 0, rfl, ⟨rfl, Nat.le_refl _, (fun h => by cases h), fun h => absurd h (Nat.lt_irrefl _)⟩, HB5.out⟩
      · have hb1 : (0 ≤ xa ∧ xa < k) ∧ 0 ≤ xb ∧ xb < k := by
          simp [two, one] at gb1 gb2
          omega
        obtain ⟨i, rfl⟩ : ∃ i : Nat, xa = i := ⟨xa.toNat, by omega⟩
        obtain ⟨l, rfl⟩ : ∃ l : Nat, xb = l := ⟨xb.toNat, by omega⟩
        have hi : i < k := by omega
        have hl : l < k := by omega
        have HI : (i : Int) < k := by omega
        have HL : (l : Int) < k := by omega
        have hfi := getD_fit HJF.out.2 i (by rw [HJF.out.1]; exact hi)
        have hfl := getD_fit HJF.out.2 l (by rw [HJF.out.1]; exact hl)
        obtain ⟨vb, vo, Ai, ai, Bi, bi, Al, al, Bl, bl, hV, hvl, hci, hcl, hri, hrl⟩ := HRDS.out.two hi hl
        have hvr : vb ≠ w1.heap.size := by
          rcases HS0.out.1.2 with ⟨e, _⟩ | ⟨z, cap, cur, e, _⟩
          · injection e with e; rw [hV] at e; cases e
          · injection e with e; rw [hV] at e; injection e with e; injection e with e1 e2; exact e1 ▸ hrow z (by rw [hV]; simp [e1, e2] )
        have HH0 : Hid (HeldQ v0 wr.heap.size 127 (6, (i : Int), (l : Int), xn) vb (vo + i * 3) (vo + l * 3) (isNeg (js.getD i 0)) Ai (D (nu (js.getD i 0))).length ai Bi (D (js.getD i 0).den).length bi (isNeg (js.getD l 0)) Al (D (nu (js.getD l 0))).length al Bl (D (js.getD l 0).den).length bl) := ⟨HN0.out, hvl, hci, hcl⟩
        have n2 := HN0.out.c2
        obtain ⟨e0, e1, e2⟩ := hcl
        have HZERO := Lib.hid (l02Zero_any (isNeg (js.getD l 0)) Al Bl (D (nu (js.getD l 0))).length al (D (js.getD l 0).den).length bl v0 (by omega))
        have HRI := Lib.hid hri
        have HRL := Lib.hid hrl
        subst hV
        clear hci hri hrl
        by_cases hz : nu (js.getD l 0) = 0
        · have HRES := Lib.hid (HNO.out (by simp only [stepQ, Int.toNat_natCast, Int.reduceEq, ↓reduceIte]; rw [if_pos hz]))
          have hzl : (((D (nu (js.getD l 0))).length : Int) == 0) = true := by rw [hz, D_zero]; rfl
          rw [hzl] at HZERO
          clear HNO HFU HMO hz hzl
          generalize js.getD i 0 = f at *
          generalize js.getD l 0 = g at *
          go_wp2_with (go_at_call 102; refine HZERO.out.mono ?_; rintro e w2 ⟨rfl, b2⟩; have HB2 := Lib.hid (below_on (HS0.out.on b2).2.2.2 (below1 w2 (.cells #[] 31))); clear b2)
          go_ret2
          rw [HRES.out]
          exact ⟨_, 0, rfl, ⟨rfl, Nat.le_refl _, (fun h => by cases h), fun h => absurd h (Nat.lt_irrefl _)⟩, HB2.out⟩
        obtain ⟨p, hp, hpe⟩ : ∃ p, stepQ qs js (6, (i : Int), (l : Int), xn) = some p ∧ p = js.getD i 0 / js.getD l 0 := ⟨js.getD i 0 / js.getD l 0, by simp only [stepQ, Int.toNat_natCast, Int.reduceEq, ↓reduceIte]; rw [if_neg hz], rfl⟩
        have hpos : 0 < nu (js.getD l 0) := by omega
        have hzl : (((D (nu (js.getD l 0))).length : Int) == 0) = false := by rw [beq_eq_false_iff_ne]; have := D_len_pos hpos; omega
        rw [hzl] at HZERO
        clear hz hzl
        generalize js.getD i 0 = f at *
        generalize js.getD l 0 = g at *
        have hlp : lim p 16777216 := by
          have := div_lens f g hpos
          rw [hpe]; constructor <;> omega
        obtain ⟨lp1, lp2⟩ := hlp
        have HCALL := Lib.hid (fun (W : World) (h1 : RdR W (fun _ => True) (D (nu f)) (D f.den) Ai ai Bi bi) (h2 : RdR W (fun _ => True) (D (nu g)) (D g.den) Al al Bl bl) => l02Div_any f g Ai Bi ai bi Al Bl al bl _ _ W h1 h2 (by omega) (by omega) (by omega) (by omega) hpos)
        rw [← hpe] at HCALL
        clear hpe hpos
        go_upto_region 21 with (go_at_call 102; refine HZERO.out.mono ?_; rintro e w3 ⟨rfl, b3⟩; have HS0' := Lib.hid (HS0.out.on b3); have HH0' := Lib.hid (HH0.out.on b3); have HR0' := Lib.hid (HR0.out.on b3); have HRI' := Lib.hid (HRI.out.on b3); have HRL' := Lib.hid (HRL.out.on b3); clear b3)
        clear n0 n2 e0 e1 e2 HZERO
        go_region_held3 (fun wx => (wx.cell? ⟨wr.heap.size, 0, none⟩ = some (.int .i64 6) ∧ wx.cell? ⟨wr.heap.size, 1, none⟩ = some (.int .i64 (i : Int)) ∧ wx.cell? ⟨wr.heap.size, 2, none⟩ = some (.int .i64 (l : Int)) ∧ wx.cell? ⟨wr.heap.size, 3, none⟩ = some (.int .i64 xn)) ∧ (wx.cell? ⟨vb, vo + i * 3, none⟩ = some (.bool (isNeg f)) ∧ wx.cell? ⟨vb, vo + i * 3 + 1, none⟩ = some (.slice Ai (D (nu f)).length ai) ∧ wx.cell? ⟨vb, vo + i * 3 + 2, none⟩ = some (.slice Bi (D f.den).length bi)) ∧ (wx.cell? ⟨vb, vo + l * 3, none⟩ = some (.bool (isNeg g)) ∧ wx.cell? ⟨vb, vo + l * 3 + 1, none⟩ = some (.slice Al (D (nu g)).length al) ∧ wx.cell? ⟨vb, vo + l * 3 + 2, none⟩ = some (.slice Bl (D g.den).length bl)))
          (first | with_reducible exact HH0'.out.cells | with_reducible exact HH2.out.cells | exact HH0'.out.cells | exact HH2.out.cells | exact (HH2.out.grown (setAll_grown _ _ _ _ _) hnr hvr).cells)
          (first
            | (go_at_call 110; refine (HCALL.out _ (by first | exact HRI'.out | exact HRI'.out.on (below_drewN (Below.refl _ _) 1)) (by first | exact HRL'.out | exact HRL'.out.on (below_drewN (Below.refl _ _) 1))).mono ?_; rintro e w2 ⟨A2, c2, B2, d2, rfl, o2, b2⟩; have b2 := undrew b2; have HS2 := Lib.hid (HS0'.out.on b2); have HH2 := Lib.hid (HH0'.out.on b2); have HR2 := Lib.hid (HR0'.out.on b2); have HO2 := Lib.hid o2; have f20 := HR2.out.fz 0; have f21 := HR2.out.fz 1; have f22 := HR2.out.fz 2; have y20 := HR2.out.c0; have y21 := HR2.out.c1; have y22 := HR2.out.c2; clear o2 b2))
        go_upto_region 24 with fail
        clear f20 f21 f22 y20 y21 y22 HH0 HH0' HS0' HR0' HH2
        refine wp_at (fun v9 => ∃ (A9 : Option Addr) (c9 : Nat) (B9 : Option Addr) (d9 : Nat), RatAt v9 w1.heap.size 31 (isNeg p) A9 (D (nu p)).length c9 B9 (D p.den).length d9 ∧ RdR v9 (fun _ => True) (D (nu p)) (D p.den) A9 c9 B9 d9 ∧ RunSt 31 63 w v9 (some ⟨b, o, none⟩) n c ot (some ⟨vb, vo, none⟩) k cv L) ?_ ?_
        · exact ⟨A2, c2, B2, d2, HR2.out.setAll _ _ _ _ _ _ _, ⟨HO2.out.1.past HR2.out (setAll_grown _ _ _ _ _), HO2.out.2.past HR2.out (setAll_grown _ _ _ _ _)⟩, HS2.out.set HR2.out (setAll_grown _ _ _ _ _) hwr hrow⟩
        rintro v9 ⟨A9, c9, B9, d9, r9, o9, s9⟩
        have HR9 := Lib.hid r9
        have HO9 := Lib.hid o9
        have HS9 := Lib.hid s9
        clear r9 o9 s9
        have HFUL := Lib.hid (fun h => HFU.out p hp h)
        have HMOR := Lib.hid (fun h => HMO.out p hp h)
        clear hp HNO HFU HMO HN0 HS0 HR0 HO0 HRDS
        have a0 := HR9.out.c0
        have a1 := HR9.out.c1
        have a2 := HR9.out.c2
        by_cases hfp : fitQ p
        · have hf2 : (D (nu p)).length ≤ 40 ∧ (D p.den).length ≤ 40 := hfp
          go_wp2_with fail
          refine (l02Fits_yes (isNeg p) A9 B9 _ c9 _ d9 v9 hf2.1 hf2.2).mono ?_
          rintro e w5 ⟨rfl, b5⟩
          have HR5 := Lib.hid (HR9.out.on b5)
          have HO5 := Lib.hid (HO9.out.on b5)
          have HS5 := Lib.hid (HS9.out.on b5)
          have a0 := HR5.out.c0
          have a1 := HR5.out.c1
          have a2 := HR5.out.c2
          clear b5 HR9 HO9 HS9
          go_wp2_with fail
          refine (l02Own_new (isNeg p) A9 B9 c9 d9 (D (nu p)) (D p.den) _ w5 HO5.out (by omega) (by omega)).mono ?_
          rintro e w6 ⟨A6, c6, B6, d6, rfl, o6, b6⟩
          have HS6 := Lib.hid (HS5.out.on b6)
          have HP6 : Hid (PartsRd w6 (some ⟨vb, vo, none⟩) (L ++ [EV.mk (isNeg p) A6 c6 B6 d6 (D (nu p)) (D p.den)])) := HS6.out.2.1.snoc (o6.mono fun b h _ => row_ne HS5.out.1 (Nat.le_refl _) b h)
          have HV6 : Hid ((L ++ [EV.mk (isNeg p) A6 c6 B6 d6 (D (nu p)) (D p.den)]).map EV.v3 = (js ++ [p]).map rat3) := by
            show _ = _
            rw [List.map_append, HV.out, List.map_append]
            rfl
          have hs6 : w.heap.size + 1 ≤ w6.heap.size := by have := HS6.out.2.2.1.lt; omega
          clear o6 b6 HR5 HO5 HS5 a0 a1 a2
          go_wp2_with (at_builtin; refine wpList_append_lies _ rfl _ _ 27 rfl (w.heap.size + 1) 31 i0 _ 3 56 Tryz.underlying27 hi0 hz0 hz1 hz2 rfl (by decide) _ k _ rfl (HS6.out.1.alloc _) ⟨w6.heap.size, 0, none⟩ 1 1 [.bool (isNeg p), .slice A6 (D (nu p)).length c6, .slice B6 (D p.den).length d6] rfl rfl (cells3 _ _ _ _ _ _ _ _ _) (one3 _ _ _ _ _ _ _) (by decide) (by unfold maxLen; omega) (by omega) (by simp; omega) _ rfl ?_; intro g' cv' w7 hown hgrow hat hlt2)
          have hlit := below1 w6 (.cells #[.bool (isNeg p), .slice A6 (D (nu p)).length c6, .slice B6 (D p.den).length d6] 31)
          have HO7 : w7.ownsRow (w.heap.size + 1) 31 3 (.slice (some ⟨g', 0, none⟩) (k + 1) cv') (k + 1) (flat (L ++ [EV.mk (isNeg p) A6 c6 B6 d6 (D (nu p)) (D p.den)])) := by rw [flat_snoc]; exact hown
          have HP7 : PartsRd w7 (some ⟨g', 0, none⟩) (L ++ [EV.mk (isNeg p) A6 c6 B6 d6 (D (nu p)) (D p.den)]) := (HP6.out.on hlit).appended (HS6.out.1.alloc _) hgrow hat
          have hrb := rowed3_below (HS6.out.1.alloc _) (by simp; omega) hgrow
          have HT7 : TpAt w7 w.heap.size 63 (some ⟨b, o, none⟩) n c ot := (hrb.block _ (Nat.lt_succ_self _)).trans (HS6.out.2.2.1.on hlit)
          have HS7 : Hid (RunSt 31 63 w w7 (some ⟨b, o, none⟩) n c ot (some ⟨g', 0, none⟩) (k + 1) cv' (L ++ [EV.mk (isNeg p) A6 c6 B6 d6 (D (nu p)) (D p.den)])) := ⟨HO7, HP7, HT7, (below_on HS6.out.2.2.2 hlit).trans (hrb.mono (Nat.le_succ _))⟩
          clear hown hgrow hat hlt2 hlit HP6 HS6 HO7 HP7 hrb HT7
          go_wp2
          go_roundw
          case rel => exact ⟨k + 1, _, _, _, _, by omega, by go_num, rfl, Lib.hid (HMOR.out hfp), HV6, HS7⟩
          case measure => simp [intOf]; omega
        · have hf2 : 40 < (D (nu p)).length ∨ 40 < (D p.den).length := by unfold fitQ at hfp; omega
          have HRES := Lib.hid (HFUL.out hfp)
          go_wp2_with fail
          refine (l02Fits_no (isNeg p) A9 B9 _ c9 _ d9 v9 (by omega) (by omega) hf2).mono ?_
          rintro e w5 ⟨rfl, b5⟩
          have HB5 := Lib.hid (below_on (HS9.out.on b5).2.2.2 (below1 w5 (.cells #[] 31)))
          clear b5 HR9 HO9 HS9 a0 a1 a2
          go_wp2
          go_ret2
          rw [HRES.out]
          exact ⟨_, 0, rfl, ⟨rfl, Nat.le_refl _, (fun h => by cases h), fun h => absurd h (Nat.lt_irrefl _)⟩, HB5.out⟩
      · have hb1 : 0 ≤ xa ∧ xa < k := by
          simp [two, one] at gb1
          omega
        obtain ⟨i, rfl⟩ : ∃ i : Nat, xa = i := ⟨xa.toNat, by omega⟩
        have hi : i < k := by omega
        have HI : (i : Int) < k := by omega
        have hfi := getD_fit HJF.out.2 i (by rw [HJF.out.1]; exact hi)
        obtain ⟨vb, vo, Ai, ai, Bi, bi, Al, al, Bl, bl, hV, hvl, hci, hcl, hri, hrl⟩ := HRDS.out.two hi hi
        obtain ⟨p, hp, hpe⟩ : ∃ p, stepQ qs js (7, (i : Int), xb, xn) = some p ∧ p = -(js.getD i 0) := ⟨-(js.getD i 0), by simp only [stepQ, Int.toNat_natCast, Int.reduceEq, ↓reduceIte], rfl⟩
        have n1 := HN0.out.c1
        obtain ⟨e0, e1, e2⟩ := hci
        have hln : (D (nu (js.getD i 0))).length ≤ 16777216 := by omega
        have HNEG := Lib.hid (l02Neg_q (js.getD i 0) Ai Bi ai bi v0 hln)
        have hri2 : RdR v0 (fun _ => True) (D (nu (-(js.getD i 0)))) (D (-(js.getD i 0)).den) Ai ai Bi bi := by
          obtain ⟨z1, z2, -⟩ := neg_parts (js.getD i 0)
          rw [z1, z2]; exact hri
        have hlp : lim (-(js.getD i 0)) 16777216 := lim_neg (lim_mono (show lim _ 40 from hfi) (by decide))
        rw [← hpe] at HNEG hri2 hlp
        obtain ⟨lp1, lp2⟩ := hlp
        have HRI := Lib.hid hri2
        generalize js.getD i 0 = f at *
        subst hV
        clear hcl hri hrl hpe hri2
        go_upto_region 24 with (go_at_call 111; refine HNEG.out.mono ?_; rintro e w2 ⟨rfl, b2⟩; have HS2 := Lib.hid (HS0.out.on b2); have HR2 := Lib.hid (HR0.out.on b2); have HO2 := Lib.hid (HRI.out.on b2); have f20 := HR2.out.fz 0; have f21 := HR2.out.fz 1; have f22 := HR2.out.fz 2; have y20 := HR2.out.c0; have y21 := HR2.out.c1; have y22 := HR2.out.c2; clear b2)
        clear n0 n1 e0 e1 e2 f20 f21 f22 y20 y21 y22
        refine wp_at (fun v9 => ∃ (A9 : Option Addr) (c9 : Nat) (B9 : Option Addr) (d9 : Nat), RatAt v9 w1.heap.size 31 (isNeg p) A9 (D (nu p)).length c9 B9 (D p.den).length d9 ∧ RdR v9 (fun _ => True) (D (nu p)) (D p.den) A9 c9 B9 d9 ∧ RunSt 31 63 w v9 (some ⟨b, o, none⟩) n c ot (some ⟨vb, vo, none⟩) k cv L) ?_ ?_
        · exact ⟨Ai, ai, Bi, bi, HR2.out.setAll _ _ _ _ _ _ _, ⟨HO2.out.1.past HR2.out (setAll_grown _ _ _ _ _), HO2.out.2.past HR2.out (setAll_grown _ _ _ _ _)⟩, HS2.out.set HR2.out (setAll_grown _ _ _ _ _) hwr hrow⟩
        rintro v9 ⟨A9, c9, B9, d9, r9, o9, s9⟩
        have HR9 := Lib.hid r9
        have HO9 := Lib.hid o9
        have HS9 := Lib.hid s9
        clear r9 o9 s9
        have HFUL := Lib.hid (fun h => HFU.out p hp h)
        have HMOR := Lib.hid (fun h => HMO.out p hp h)
        clear hp HNO HFU HMO HN0 HS0 HR0 HO0 HRDS
        have a0 := HR9.out.c0
        have a1 := HR9.out.c1
        have a2 := HR9.out.c2
        by_cases hfp : fitQ p
        · have hf2 : (D (nu p)).length ≤ 40 ∧ (D p.den).length ≤ 40 := hfp
          go_wp2_with fail
          refine (l02Fits_yes (isNeg p) A9 B9 _ c9 _ d9 v9 hf2.1 hf2.2).mono ?_
          rintro e w5 ⟨rfl, b5⟩
          have HR5 := Lib.hid (HR9.out.on b5)
          have HO5 := Lib.hid (HO9.out.on b5)
          have HS5 := Lib.hid (HS9.out.on b5)
          have a0 := HR5.out.c0
          have a1 := HR5.out.c1
          have a2 := HR5.out.c2
          clear b5 HR9 HO9 HS9
          go_wp2_with fail
          refine (l02Own_new (isNeg p) A9 B9 c9 d9 (D (nu p)) (D p.den) _ w5 HO5.out (by omega) (by omega)).mono ?_
          rintro e w6 ⟨A6, c6, B6, d6, rfl, o6, b6⟩
          have HS6 := Lib.hid (HS5.out.on b6)
          have HP6 : Hid (PartsRd w6 (some ⟨vb, vo, none⟩) (L ++ [EV.mk (isNeg p) A6 c6 B6 d6 (D (nu p)) (D p.den)])) := HS6.out.2.1.snoc (o6.mono fun b h _ => row_ne HS5.out.1 (Nat.le_refl _) b h)
          have HV6 : Hid ((L ++ [EV.mk (isNeg p) A6 c6 B6 d6 (D (nu p)) (D p.den)]).map EV.v3 = (js ++ [p]).map rat3) := by
            show _ = _
            rw [List.map_append, HV.out, List.map_append]
            rfl
          have hs6 : w.heap.size + 1 ≤ w6.heap.size := by have := HS6.out.2.2.1.lt; omega
          clear o6 b6 HR5 HO5 HS5 a0 a1 a2
          go_wp2_with (at_builtin; refine wpList_append_lies _ rfl _ _ 27 rfl (w.heap.size + 1) 31 i0 _ 3 56 Tryz.underlying27 hi0 hz0 hz1 hz2 rfl (by decide) _ k _ rfl (HS6.out.1.alloc _) ⟨w6.heap.size, 0, none⟩ 1 1 [.bool (isNeg p), .slice A6 (D (nu p)).length c6, .slice B6 (D p.den).length d6] rfl rfl (cells3 _ _ _ _ _ _ _ _ _) (one3 _ _ _ _ _ _ _) (by decide) (by unfold maxLen; omega) (by omega) (by simp; omega) _ rfl ?_; intro g' cv' w7 hown hgrow hat hlt2)
          have hlit := below1 w6 (.cells #[.bool (isNeg p), .slice A6 (D (nu p)).length c6, .slice B6 (D p.den).length d6] 31)
          have HO7 : w7.ownsRow (w.heap.size + 1) 31 3 (.slice (some ⟨g', 0, none⟩) (k + 1) cv') (k + 1) (flat (L ++ [EV.mk (isNeg p) A6 c6 B6 d6 (D (nu p)) (D p.den)])) := by rw [flat_snoc]; exact hown
          have HP7 : PartsRd w7 (some ⟨g', 0, none⟩) (L ++ [EV.mk (isNeg p) A6 c6 B6 d6 (D (nu p)) (D p.den)]) := (HP6.out.on hlit).appended (HS6.out.1.alloc _) hgrow hat
          have hrb := rowed3_below (HS6.out.1.alloc _) (by simp; omega) hgrow
          have HT7 : TpAt w7 w.heap.size 63 (some ⟨b, o, none⟩) n c ot := (hrb.block _ (Nat.lt_succ_self _)).trans (HS6.out.2.2.1.on hlit)
          have HS7 : Hid (RunSt 31 63 w w7 (some ⟨b, o, none⟩) n c ot (some ⟨g', 0, none⟩) (k + 1) cv' (L ++ [EV.mk (isNeg p) A6 c6 B6 d6 (D (nu p)) (D p.den)])) := ⟨HO7, HP7, HT7, (below_on HS6.out.2.2.2 hlit).trans (hrb.mono (Nat.le_succ _))⟩
          clear hown hgrow hat hlt2 hlit HP6 HS6 HO7 HP7 hrb HT7
          go_wp2
          go_roundw
          case rel => exact ⟨k + 1, _, _, _, _, by omega, by go_num, rfl, Lib.hid (HMOR.out hfp), HV6, HS7⟩
          case measure => simp [intOf]; omega
        · have hf2 : 40 < (D (nu p)).length ∨ 40 < (D p.den).length := by unfold fitQ at hfp; omega
          have HRES := Lib.hid (HFUL.out hfp)
          go_wp2_with fail
          refine (l02Fits_no (isNeg p) A9 B9 _ c9 _ d9 v9 (by omega) (by omega) hf2).mono ?_
          rintro e w5 ⟨rfl, b5⟩
          have HB5 := Lib.hid (below_on (HS9.out.on b5).2.2.2 (below1 w5 (.cells #[] 31)))
          clear b5 HR9 HO9 HS9 a0 a1 a2
          go_wp2
          go_ret2
          rw [HRES.out]
          exact ⟨_, 0, rfl, ⟨rfl, Nat.le_refl _, (fun h => by cases h), fun h => absurd h (Nat.lt_irrefl _)⟩, HB5.out⟩
      · have hb1 : 0 ≤ xa ∧ xa < k := by
          simp [two, one] at gb1
          omega
        obtain ⟨i, rfl⟩ : ∃ i : Nat, xa = i := ⟨xa.toNat, by omega⟩
        have hi : i < k := by omega
        have HI : (i : Int) < k := by omega
        have hfi := getD_fit HJF.out.2 i (by rw [HJF.out.1]; exact hi)
        obtain ⟨vb, vo, Ai, ai, Bi, bi, Al, al, Bl, bl, hV, hvl, hci, hcl, hri, hrl⟩ := HRDS.out.two hi hi
        have hvr : vb ≠ w1.heap.size := by
          rcases HS0.out.1.2 with ⟨e, _⟩ | ⟨z, cap, cur, e, _⟩
          · injection e with e; rw [hV] at e; cases e
          · injection e with e; rw [hV] at e; injection e with e; injection e with e1 e2; exact e1 ▸ hrow z (by rw [hV]; simp [e1, e2] )
        simp at f4
        obtain ⟨q, rfl⟩ : ∃ q : Nat, xn = q := ⟨xn.toNat, by omega⟩
        obtain ⟨p, hp, hpe⟩ : ∃ p, stepQ qs js (8, (i : Int), xb, (q : Int)) = some p ∧ p = js.getD i 0 ^ q := ⟨js.getD i 0 ^ q, by simp only [stepQ, Int.toNat_natCast, Int.reduceEq, ↓reduceIte], rfl⟩
        have HH0 : Hid (HeldQ v0 wr.heap.size 127 (8, (i : Int), xb, (q : Int)) vb (vo + i * 3) (vo + i * 3) (isNeg (js.getD i 0)) Ai (D (nu (js.getD i 0))).length ai Bi (D (js.getD i 0).den).length bi (isNeg (js.getD i 0)) Ai (D (nu (js.getD i 0))).length ai Bi (D (js.getD i 0).den).length bi) := ⟨HN0.out, hvl, hci, hci⟩
        generalize js.getD i 0 = f at *
        have hlp : lim p 16777216 := by
          have := pow_lens f q hfi.1 hfi.2 (by omega)
          rw [hpe]; constructor <;> omega
        obtain ⟨lp1, lp2⟩ := hlp
        have HRI := Lib.hid hri
        subst hV
        clear hci hcl hri hrl
        have HCALL := Lib.hid (fun (W : World) (h1 : RdR W (fun _ => True) (D (nu f)) (D f.den) Ai ai Bi bi) => l02Pow_any f q (by omega) Ai Bi ai bi _ W h1 hfi.1 hfi.2)
        rw [← hpe] at HCALL
        clear hpe
        go_upto_region 8 with fail
        clear n0
        go_region_held3 (fun wx => (wx.cell? ⟨wr.heap.size, 0, none⟩ = some (.int .i64 8) ∧ wx.cell? ⟨wr.heap.size, 1, none⟩ = some (.int .i64 (i : Int)) ∧ wx.cell? ⟨wr.heap.size, 2, none⟩ = some (.int .i64 xb) ∧ wx.cell? ⟨wr.heap.size, 3, none⟩ = some (.int .i64 (q : Int))) ∧ (wx.cell? ⟨vb, vo + i * 3, none⟩ = some (.bool (isNeg f)) ∧ wx.cell? ⟨vb, vo + i * 3 + 1, none⟩ = some (.slice Ai (D (nu f)).length ai) ∧ wx.cell? ⟨vb, vo + i * 3 + 2, none⟩ = some (.slice Bi (D f.den).length bi)) ∧ (wx.cell? ⟨vb, vo + i * 3, none⟩ = some (.bool (isNeg f)) ∧ wx.cell? ⟨vb, vo + i * 3 + 1, none⟩ = some (.slice Ai (D (nu f)).length ai) ∧ wx.cell? ⟨vb, vo + i * 3 + 2, none⟩ = some (.slice Bi (D f.den).length bi)))
          (first | with_reducible exact HH0.out.cells | with_reducible exact HH2.out.cells | exact HH0.out.cells | exact HH2.out.cells | exact (HH2.out.grown (setAll_grown _ _ _ _ _) hnr hvr).cells)
          (first
            | (go_at_call 112; refine (HCALL.out _ (by first | exact HRI.out | exact HRI.out.on (below_drewN (Below.refl _ _) 1))).mono ?_; rintro e w2 ⟨A2, c2, B2, d2, rfl, o2, b2⟩; have b2 := undrew b2; have HS2 := Lib.hid (HS0.out.on b2); have HH2 := Lib.hid (HH0.out.on b2); have HR2 := Lib.hid (HR0.out.on b2); have HO2 := Lib.hid o2; have f20 := HR2.out.fz 0; have f21 := HR2.out.fz 1; have f22 := HR2.out.fz 2; have y20 := HR2.out.c0; have y21 := HR2.out.c1; have y22 := HR2.out.c2; clear o2 b2))
        go_upto_region 24 with fail
        clear f20 f21 f22 y20 y21 y22 HH0 HH2
        refine wp_at (fun v9 => ∃ (A9 : Option Addr) (c9 : Nat) (B9 : Option Addr) (d9 : Nat), RatAt v9 w1.heap.size 31 (isNeg p) A9 (D (nu p)).length c9 B9 (D p.den).length d9 ∧ RdR v9 (fun _ => True) (D (nu p)) (D p.den) A9 c9 B9 d9 ∧ RunSt 31 63 w v9 (some ⟨b, o, none⟩) n c ot (some ⟨vb, vo, none⟩) k cv L) ?_ ?_
        · exact ⟨A2, c2, B2, d2, HR2.out.setAll _ _ _ _ _ _ _, ⟨HO2.out.1.past HR2.out (setAll_grown _ _ _ _ _), HO2.out.2.past HR2.out (setAll_grown _ _ _ _ _)⟩, HS2.out.set HR2.out (setAll_grown _ _ _ _ _) hwr hrow⟩
        rintro v9 ⟨A9, c9, B9, d9, r9, o9, s9⟩
        have HR9 := Lib.hid r9
        have HO9 := Lib.hid o9
        have HS9 := Lib.hid s9
        clear r9 o9 s9
        have HFUL := Lib.hid (fun h => HFU.out p hp h)
        have HMOR := Lib.hid (fun h => HMO.out p hp h)
        clear hp HNO HFU HMO HN0 HS0 HR0 HO0 HRDS
        have a0 := HR9.out.c0
        have a1 := HR9.out.c1
        have a2 := HR9.out.c2
        by_cases hfp : fitQ p
        · have hf2 : (D (nu p)).length ≤ 40 ∧ (D p.den).length ≤ 40 := hfp
          go_wp2_with fail
          refine (l02Fits_yes (isNeg p) A9 B9 _ c9 _ d9 v9 hf2.1 hf2.2).mono ?_
          rintro e w5 ⟨rfl, b5⟩
          have HR5 := Lib.hid (HR9.out.on b5)
          have HO5 := Lib.hid (HO9.out.on b5)
          have HS5 := Lib.hid (HS9.out.on b5)
          have a0 := HR5.out.c0
          have a1 := HR5.out.c1
          have a2 := HR5.out.c2
          clear b5 HR9 HO9 HS9
          go_wp2_with fail
          refine (l02Own_new (isNeg p) A9 B9 c9 d9 (D (nu p)) (D p.den) _ w5 HO5.out (by omega) (by omega)).mono ?_
          rintro e w6 ⟨A6, c6, B6, d6, rfl, o6, b6⟩
          have HS6 := Lib.hid (HS5.out.on b6)
          have HP6 : Hid (PartsRd w6 (some ⟨vb, vo, none⟩) (L ++ [EV.mk (isNeg p) A6 c6 B6 d6 (D (nu p)) (D p.den)])) := HS6.out.2.1.snoc (o6.mono fun b h _ => row_ne HS5.out.1 (Nat.le_refl _) b h)
          have HV6 : Hid ((L ++ [EV.mk (isNeg p) A6 c6 B6 d6 (D (nu p)) (D p.den)]).map EV.v3 = (js ++ [p]).map rat3) := by
            show _ = _
            rw [List.map_append, HV.out, List.map_append]
            rfl
          have hs6 : w.heap.size + 1 ≤ w6.heap.size := by have := HS6.out.2.2.1.lt; omega
          clear o6 b6 HR5 HO5 HS5 a0 a1 a2
          go_wp2_with (at_builtin; refine wpList_append_lies _ rfl _ _ 27 rfl (w.heap.size + 1) 31 i0 _ 3 56 Tryz.underlying27 hi0 hz0 hz1 hz2 rfl (by decide) _ k _ rfl (HS6.out.1.alloc _) ⟨w6.heap.size, 0, none⟩ 1 1 [.bool (isNeg p), .slice A6 (D (nu p)).length c6, .slice B6 (D p.den).length d6] rfl rfl (cells3 _ _ _ _ _ _ _ _ _) (one3 _ _ _ _ _ _ _) (by decide) (by unfold maxLen; omega) (by omega) (by simp; omega) _ rfl ?_; intro g' cv' w7 hown hgrow hat hlt2)
          have hlit := below1 w6 (.cells #[.bool (isNeg p), .slice A6 (D (nu p)).length c6, .slice B6 (D p.den).length d6] 31)
          have HO7 : w7.ownsRow (w.heap.size + 1) 31 3 (.slice (some ⟨g', 0, none⟩) (k + 1) cv') (k + 1) (flat (L ++ [EV.mk (isNeg p) A6 c6 B6 d6 (D (nu p)) (D p.den)])) := by rw [flat_snoc]; exact hown
          have HP7 : PartsRd w7 (some ⟨g', 0, none⟩) (L ++ [EV.mk (isNeg p) A6 c6 B6 d6 (D (nu p)) (D p.den)]) := (HP6.out.on hlit).appended (HS6.out.1.alloc _) hgrow hat
          have hrb := rowed3_below (HS6.out.1.alloc _) (by simp; omega) hgrow
          have HT7 : TpAt w7 w.heap.size 63 (some ⟨b, o, none⟩) n c ot := (hrb.block _ (Nat.lt_succ_self _)).trans (HS6.out.2.2.1.on hlit)
          have HS7 : Hid (RunSt 31 63 w w7 (some ⟨b, o, none⟩) n c ot (some ⟨g', 0, none⟩) (k + 1) cv' (L ++ [EV.mk (isNeg p) A6 c6 B6 d6 (D (nu p)) (D p.den)])) := ⟨HO7, HP7, HT7, (below_on HS6.out.2.2.2 hlit).trans (hrb.mono (Nat.le_succ _))⟩
          clear hown hgrow hat hlt2 hlit HP6 HS6 HO7 HP7 hrb HT7
          go_wp2
          go_roundw
          case rel => exact ⟨k + 1, _, _, _, _, by omega, by go_num, rfl, Lib.hid (HMOR.out hfp), HV6, HS7⟩
          case measure => simp [intOf]; omega
        · have hf2 : 40 < (D (nu p)).length ∨ 40 < (D p.den).length := by unfold fitQ at hfp; omega
          have HRES := Lib.hid (HFUL.out hfp)
          go_wp2_with fail
          refine (l02Fits_no (isNeg p) A9 B9 _ c9 _ d9 v9 (by omega) (by omega) hf2).mono ?_
          rintro e w5 ⟨rfl, b5⟩
          have HB5 := Lib.hid (below_on (HS9.out.on b5).2.2.2 (below1 w5 (.cells #[] 31)))
          clear b5 HR9 HO9 HS9 a0 a1 a2
          go_wp2
          go_ret2
          rw [HRES.out]
          exact ⟨_, 0, rfl, ⟨rfl, Nat.le_refl _, (fun h => by cases h), fun h => absurd h (Nat.lt_irrefl _)⟩, HB5.out⟩
    · obtain rfl : k = n := by omega
      have HT : Hid (evalQ qs ns = (js, 0)) := by
        show _ = _
        rw [← HEV.out, List.take_of_length_le (by rw [HLN.out]; exact Nat.le_refl _)]
      have hjl : js.length = k := by
        have h1 := HS.out.1.1
        rw [flat_len] at h1
        have h2 := congrArg List.length HV.out
        rw [List.length_map, List.length_map] at h2
        omega
      have HF := Lib.hid (HS.out.rds HV.out)
      have HB := Lib.hid HS.out.2.2.2
      clear HEV HV HS
      go_wp2
      go_ret2
      rw [HT.out]
      refine ⟨V, cv, ?_, ?_, HB.out⟩
      · rw [List.length_map, hjl]; rfl
      · rw [List.length_map, hjl]; exact HF.out
end Go.Proofs.YtcepjcnpokpdcaaGreatDoor
