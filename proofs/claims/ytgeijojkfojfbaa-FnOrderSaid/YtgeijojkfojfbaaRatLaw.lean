/-
  What the laws do with rationals: copies, comparisons, marks.
-/
import Derived.Test.YtgeijojkfojfbaaRatOk
namespace Nt
open Go Go.RowKit
theorem below_on {a w w' : World} (h : Below a.heap.size a w) (hb : Below w.heap.size w w') : Below a.heap.size a w' := h.trans (hb.mono h.size)
/-- two rows of the call's own that share no block -/
def OwnR (t : TypeId) (w : World) (base : Nat) (xs ys : List Int) (A : Option Addr) (ca : Nat) (B : Option Addr) (cb : Nat) : Prop :=
  w.ownsRow base t 1 (.slice A xs.length ca) xs.length (xs.map (Value.int .i64)) ∧ w.ownsRow base t 1 (.slice B ys.length cb) ys.length (ys.map (Value.int .i64)) ∧
  ∀ g h, A = some ⟨g, 0, none⟩ → B = some ⟨h, 0, none⟩ → g ≠ h
/-- two slices that read as xs and ys -/
def RdR (w : World) (P : Nat → Prop) (xs ys : List Int) (A : Option Addr) (ca : Nat) (B : Option Addr) (cb : Nat) : Prop :=
  Rd w P A xs.length ca xs ∧ Rd w P B ys.length cb ys
/-- a rational in memory of its own -/
def RetR (t : TypeId) (w : World) (neg : Bool) (xs ys : List Int) (e : Ending) (w' : World) : Prop :=
  ∃ A ca B cb, e = .returned (.agg #[.bool neg, .slice A xs.length ca, .slice B ys.length cb]) ∧ OwnR t w' w.heap.size xs ys A ca B cb ∧ Below w.heap.size w w'
/-- the same, and a code -/
def RetRC (t : TypeId) (w : World) (neg : Bool) (xs ys : List Int) (code : Int) (e : Ending) (w' : World) : Prop :=
  ∃ A ca B cb, e = .returned (.tuple #[.agg #[.bool neg, .slice A xs.length ca, .slice B ys.length cb], .int .i64 code]) ∧ OwnR t w' w.heap.size xs ys A ca B cb ∧ Below w.heap.size w w'
/-- a rational that can be read, and a code -/
def SayRC (w : World) (neg : Bool) (xs ys : List Int) (code : Int) (e : Ending) (w' : World) : Prop :=
  ∃ A ca B cb, e = .returned (.tuple #[.agg #[.bool neg, .slice A xs.length ca, .slice B ys.length cb], .int .i64 code]) ∧ RdR w' (· < w'.heap.size) xs ys A ca B cb ∧ Below w.heap.size w w'
variable {t : TypeId} {w w' : World} {base ca cb : Nat} {xs ys : List Int} {A B : Option Addr}
theorem OwnR.on (h : OwnR t w base xs ys A ca B cb) (hb : Below w.heap.size w w') : OwnR t w' base xs ys A ca B cb := ⟨own_keep h.1 hb, own_keep h.2.1 hb, h.2.2⟩
theorem OwnR.rd (h : OwnR t w base xs ys A ca B cb) : RdR w (base ≤ ·) xs ys A ca B cb := ⟨own_rd' h.1, own_rd' h.2.1⟩
theorem OwnR.rdt (h : OwnR t w base xs ys A ca B cb) : RdR w (fun _ => True) xs ys A ca B cb := ⟨(own_rd' h.1).mono fun _ _ _ => trivial, (own_rd' h.2.1).mono fun _ _ _ => trivial⟩
theorem OwnR.rdl (h : OwnR t w base xs ys A ca B cb) : RdR w (· < w.heap.size) xs ys A ca B cb := ⟨(own_rd' h.1).mono fun _ _ h => h, (own_rd' h.2.1).mono fun _ _ h => h⟩
theorem OwnR.mono {base' : Nat} (h : OwnR t w base xs ys A ca B cb) (hb : base' ≤ base) : OwnR t w base' xs ys A ca B cb := ⟨own_mono h.1 hb, own_mono h.2.1 hb, h.2.2⟩
theorem RdR.below {N : Nat} (h : RdR w (· < N) xs ys A ca B cb) (hb : Below N w w') : RdR w' (· < N) xs ys A ca B cb := ⟨h.1.below hb, h.2.below hb⟩
theorem RdR.on {P : Nat → Prop} (h : RdR w P xs ys A ca B cb) (hb : Below w.heap.size w w') : RdR w' P xs ys A ca B cb :=
  ⟨h.1.keep hb.size fun b _ hl => hb.block b hl, h.2.keep hb.size fun b _ hl => hb.block b hl⟩
theorem RdR.mono {P Q : Nat → Prop} (h : RdR w P xs ys A ca B cb) (hpq : ∀ b, P b → b < w.heap.size → Q b) : RdR w Q xs ys A ca B cb := ⟨h.1.mono hpq, h.2.mono hpq⟩
/-- only the rows at A and B have turned -/
def Only (A B : Option Addr) (w w' : World) : Prop :=
  w'.os = w.os ∧ w'.tape = w.tape ∧ w'.output = w.output ∧ w.heap.size ≤ w'.heap.size ∧ ∀ k, k < w.heap.size → A ≠ some ⟨k, 0, none⟩ → B ≠ some ⟨k, 0, none⟩ → w'.heap[k]? = w.heap[k]?
theorem Only.below (h : Only A B w w') (ho : OwnR t w base xs ys A ca B cb) (hb : base ≤ w.heap.size) : Below base w w' :=
  ⟨h.1, h.2.1, h.2.2.1, h.2.2.2.1, fun k hk => h.2.2.2.2 k (by omega) (fun e => by have := own_block ho.1 e; omega) (fun e => by have := own_block ho.2.1 e; omega)⟩
theorem own_type {n c b : Nat} {v : List Value} {tr : TypeId} {cells : Array Value} (h : w.ownsRow base t 1 (.slice A n c) n v) (hne : t ≠ tr) (hr : w.heap[b]? = some (.cells cells tr (0, 0))) : A ≠ some ⟨b, 0, none⟩ := by
  intro e
  subst e
  rcases h.2 with ⟨e1, _⟩ | ⟨g, cap, cur, e1, _, hh, _⟩
  · cases e1
  · injection e1 with e1
    injection e1 with e1
    injection e1 with e1
    subst e1
    rw [hr] at hh
    injection hh with hh
    injection hh with _ hh
    exact hne hh.symm
theorem Only.at_ {b la' lb' ca' cb' : Nat} {tr : TypeId} {neg : Bool} {A' B' : Option Addr} (h : Only A B w w') (ho : OwnR t w base xs ys A ca B cb) (hne : t ≠ tr) (hr : RatAt w b tr neg A' la' ca' B' lb' cb') : RatAt w' b tr neg A' la' ca' B' lb' cb' :=
  (h.2.2.2.2 b hr.lt (own_type ho.1 hne hr) (own_type ho.2.1 hne hr)).trans hr
theorem Only.own {base' ca' cb' : Nat} {xs' ys' : List Int} {A' B' : Option Addr} (h : Only A B w w') (hlt : ∀ g, A = some ⟨g, 0, none⟩ ∨ B = some ⟨g, 0, none⟩ → g < base') (ho' : OwnR t w base' xs' ys' A' ca' B' cb') : OwnR t w' base' xs' ys' A' ca' B' cb' := by
  refine ⟨own_at_block ho'.1 fun g hg => ?_, own_at_block ho'.2.1 fun g hg => ?_, ho'.2.2⟩
  · have := own_block ho'.1 hg
    exact h.2.2.2.2 g this.2 (fun e => by have := hlt g (.inl e); omega) (fun e => by have := hlt g (.inr e); omega)
  · have := own_block ho'.2.1 hg
    exact h.2.2.2.2 g this.2 (fun e => by have := hlt g (.inl e); omega) (fun e => by have := hlt g (.inr e); omega)
theorem Only.lists {n c : Nat} {v : List Value} {base' : Nat} (h : Only A B w w') (hlt : ∀ g, A = some ⟨g, 0, none⟩ ∨ B = some ⟨g, 0, none⟩ → g < base') {A' : Option Addr} (ho' : w.ownsRow base' t 1 (.slice A' n c) n v) : w'.ownsRow base' t 1 (.slice A' n c) n v :=
  own_at_block ho' fun g hg => by
    have := own_block ho' hg
    exact h.2.2.2.2 g this.2 (fun e => by have := hlt g (.inl e); omega) (fun e => by have := hlt g (.inr e); omega)
theorem OwnR.lt (h : OwnR t w base xs ys A ca B cb) : ∀ g, A = some ⟨g, 0, none⟩ ∨ B = some ⟨g, 0, none⟩ → g < w.heap.size := by
  rintro g (e | e)
  · exact (own_block h.1 e).2
  · exact (own_block h.2.1 e).2
theorem OwnR.ge (h : OwnR t w base xs ys A ca B cb) : ∀ g, A = some ⟨g, 0, none⟩ ∨ B = some ⟨g, 0, none⟩ → base ≤ g := by
  rintro g (e | e)
  · exact (own_block h.1 e).1
  · exact (own_block h.2.1 e).1
def szZ (left : Int) (n : Nat) : Int := if left < n then -1 else left - n
theorem szZ_neg {left : Int} {n : Nat} (h : left < n) : szZ left n = -1 := by unfold szZ; rw [if_pos h]
theorem szZ_pos {left : Int} {n : Nat} (h : ¬ left < n) : szZ left n = left - n := by unfold szZ; rw [if_neg h]
theorem ownBlock_eq {A : Option Addr} {n c k : Nat} (h : (Value.slice A n c).ownBlock = some k) (ho : w.ownsRow base t 1 (.slice A n c) n (xs.map (Value.int .i64))) : A = some ⟨k, 0, none⟩ := by
  rcases ho.2 with ⟨e1, _⟩ | ⟨g, cap, cur, e1, _⟩
  · injection e1 with e1; subst e1; cases h
  · injection e1 with e1; subst e1; simp [Value.ownBlock] at h; rw [h]
end Nt
namespace Go.Proofs.Ytgeijojkfojfbaa
open Go Go.RowKit Nt

theorem szIntS_any (A : Option Addr) (n c : Nat) (left : Int) (w : World) (h0 : 0 ≤ left) (h1 : left ≤ 1048576) (hn : n ≤ 9223372036854775807) :
    Calls Try.prog 89 #[.slice A n c, .int .i64 left] w fun e w' => e = .returned (.int .i64 (szZ left n)) ∧ w = w' := by
  by_cases h : left < n
  · have HZ := Lib.hid (szZ_neg h)
    have hd : left - (n : Int) < 0 := by omega
    go_enter Try.func89, Try.ntmps89
    go_wp2
    go_ret
    exact ⟨by rw [HZ.out]; rfl, rfl⟩
  · have HZ := Lib.hid (szZ_pos h)
    have hd : 0 ≤ left - (n : Int) := by omega
    go_enter Try.func89, Try.ntmps89
    go_wp2
    go_ret
    exact ⟨by rw [HZ.out]; rfl, rfl⟩

set_option maxHeartbeats 800000 in
theorem szRat_big (neg : Bool) (A B : Option Addr) (la ca lb cb : Nat) (left : Int) (w : World) (h0 : 0 ≤ left) (h1 : left ≤ 1048576) (hla : la ≤ 9223372036854775807) (hlb : lb ≤ 9223372036854775807) (h : left < la + lb) :
    Calls Try.prog 33 #[.agg #[.bool neg, .slice A la ca, .slice B lb cb], .int .i64 left] w fun e w' => e = .returned (.int .i64 (-1)) ∧ Below w.heap.size w w' := by
  have HB := Lib.hid ((Below.refl w.heap.size w).alloc (Nat.le_refl _) (.cells #[.bool neg, .slice A la ca, .slice B lb cb] 51))
  go_enter Try.func33, Try.ntmps33
  go_wp2_with fail
  refine (szIntS_any A la ca left _ h0 h1 hla).mono ?_
  rintro e w1 ⟨rfl, rfl⟩
  by_cases h2 : left < la
  · rw [szZ_neg h2]
    go_wp2
    go_ret
    exact ⟨rfl, HB.out⟩
  · rw [szZ_pos h2]
    have hd : 0 ≤ left - (la : Int) := by omega
    go_wp2_with fail
    refine (szIntS_any B lb cb (left - la) _ hd (by omega) hlb).mono ?_
    rintro e w1 ⟨rfl, rfl⟩
    rw [szZ_neg (by omega)]
    go_wp2
    go_ret
    exact ⟨rfl, HB.out⟩

set_option maxHeartbeats 800000 in
theorem szRat_fit (neg : Bool) (A B : Option Addr) (la ca lb cb : Nat) (left : Int) (w : World) (h0 : 0 ≤ left) (h1 : left ≤ 1048576) (h : ¬ left < la + lb) :
    Calls Try.prog 33 #[.agg #[.bool neg, .slice A la ca, .slice B lb cb], .int .i64 left] w fun e w' => e = .returned (.int .i64 (left - la - lb)) ∧ Below w.heap.size w w' := by
  have HB := Lib.hid ((Below.refl w.heap.size w).alloc (Nat.le_refl _) (.cells #[.bool neg, .slice A la ca, .slice B lb cb] 51))
  go_enter Try.func33, Try.ntmps33
  go_wp2_with fail
  refine (szIntS_any A la ca left _ h0 h1 (by omega)).mono ?_
  rintro e w1 ⟨rfl, rfl⟩
  rw [szZ_pos (by omega)]
  have hd : 0 ≤ left - (la : Int) := by omega
  go_wp2_with fail
  refine (szIntS_any B lb cb (left - la) _ hd (by omega) (by omega)).mono ?_
  rintro e w1 ⟨rfl, rfl⟩
  rw [szZ_pos (by omega)]
  have hd2 : 0 ≤ left - (la : Int) - lb := by omega
  go_wp2
  go_ret
  exact ⟨rfl, HB.out⟩

set_option maxHeartbeats 800000 in
theorem toRat_any (neg : Bool) (A B : Option Addr) (la ca lb cb : Nat) (xs ys : List Int) (w : World) (hx0 : Rd w (· < w.heap.size) A la ca xs) (hy0 : Rd w (· < w.heap.size) B lb cb ys) (hla : la ≤ 1048576) (hlb : lb ≤ 1048576) :
    Calls Try.prog 36 #[.agg #[.bool neg, .slice A la ca, .slice B lb cb]] w (RetR 3 w neg xs ys) := by
  have HX := Lib.hid hx0
  have HY := Lib.hid hy0
  have HXL := Lib.hid hx0.len
  have HYL := Lib.hid hy0.len
  clear hx0 hy0
  go_enter Try.func36, Try.ntmps36
  go_wp2_with fail
  refine calls_at (fun W => Below w.heap.size w W ∧ RatAt W w.heap.size 51 neg A la ca B lb cb ∧ RatAt W (w.heap.size + 1) 43 false none 0 0 none 0 0 ∧ RatAt W (w.heap.size + 1 + 1) 43 neg none 0 0 none 0 0)
    ⟨below3 _ _ _ _, ((RatAt.new _ _ _ _ _ _ _ _ _).alloc _).alloc _, (RatAt.new1 _ _ _ _ _ _ _ _ _ _).alloc _, RatAt.new2 _ _ _ _ _ _ _ _ _ _ _⟩ ?_
  rintro W ⟨hb, r0, r1, r2⟩
  refine (toIntS_any A la ca xs (· < w.heap.size) W (HX.out.below hb) hla).mono ?_
  rintro e w1 ⟨rfl, a1, b1⟩
  have s0 := r2.lt
  have s1 := b1.size
  have hW : w.heap.size ≤ W.heap.size := hb.size
  have HB1 := Lib.hid (below_on hb b1)
  have HR0 := Lib.hid (r0.on b1)
  have HR1 := Lib.hid (r1.on b1)
  have HR2 := Lib.hid (r2.on b1)
  have HA1 := Lib.hid a1
  clear hb r0 r1 r2 a1 b1
  have c02 := HR0.out.c2
  have f21 := HR2.out.fz 1
  have c21 := HR2.out.c1
  go_wp2_with fail
  clear c02 f21 c21
  refine calls_at (fun V => Below w.heap.size w V ∧ RatAt V (w.heap.size + 1) 43 false none 0 0 none 0 0 ∧ RatAt V (w.heap.size + 1 + 1) 43 neg (some ⟨W.heap.size, 0, none⟩) la la none 0 0 ∧ Arr V W.heap.size 3 xs ∧ V.heap.size = w1.heap.size)
    ⟨below_set HB1.out (by omega) _ _, HR1.out.grown (set_grown _ _ _ _) (by omega), HR2.out.set1 _ _ _, HA1.out.keep ((set_grown _ _ _ _).block _ HA1.out.lt (fun e => by injection e with e; omega)), by simp⟩ ?_
  rintro V ⟨hb, r1, r2, a1, hV0⟩
  have hV : W.heap.size < V.heap.size := by have := a1.lt; omega
  have hV2 : w.heap.size + 1 + 1 < V.heap.size := by have := r2.lt; omega
  clear hV0
  refine (toIntS_any B lb cb ys (· < w.heap.size) V (HY.out.below hb) hlb).mono ?_
  rintro e w2 ⟨rfl, a2, b2⟩
  have s2 := b2.size
  have HA1' := Lib.hid (a1.keep (b2.block _ a1.lt))
  have HA2 := Lib.hid a2
  have HB2 := Lib.hid (below_on hb b2)
  have HR1' := Lib.hid (r1.on b2)
  have HR2' := Lib.hid (r2.on b2)
  clear hb r1 r2 a1 a2 b2 HB1 HR0 HR1 HR2 HA1
  have f22 := HR2'.out.fz 2
  have c20 := HR2'.out.c0
  have c21 := HR2'.out.c1
  have c22 := HR2'.out.c2
  have f10 := HR1'.out.fz 0
  have f11 := HR1'.out.fz 1
  have f12 := HR1'.out.fz 2
  have c10 := HR1'.out.c0
  have c11 := HR1'.out.c1
  have c12 := HR1'.out.c2
  go_wp2
  clear f22 c20 c21 c22 f10 f11 f12 c10 c11 c12
  have g1 := set_grown w2 (w.heap.size + 1 + 1) 2 (.slice (some ⟨V.heap.size, 0, none⟩) lb lb)
  have r1 := HR1'.out.grown g1 (by omega)
  have x1 := HA1'.out.keep (g1.block _ HA1'.out.lt (fun e => by injection e with e; omega))
  have x2 := HA2.out.keep (g1.block _ HA2.out.lt (fun e => by injection e with e; omega))
  have b1 := below_grow HB2.out (by omega) g1
  clear HB2 HR1' HR2' HA1' HA2
  generalize w2.setCell ⟨w.heap.size + 1 + 1, 2, none⟩ (.slice (some ⟨V.heap.size, 0, none⟩) lb lb) = w3 at *
  have g2 := setAll_grown w3 (w.heap.size + 1) (.bool neg) (.slice (some ⟨W.heap.size, 0, none⟩) la la) (.slice (some ⟨V.heap.size, 0, none⟩) lb lb)
  refine bodyPost_ret (retR rfl _ _ _ rfl (r1.setAll _ _ _ _ _ _ _)) rfl ?_
  have hl1 := HXL.out
  have hl2 := HYL.out
  have hm : la ≤ maxLen := by unfold maxLen; omega
  have hm2 : lb ≤ maxLen := by unfold maxLen; omega
  subst hl1 hl2
  exact ⟨_, _, _, _, rfl, ⟨(x1.keep (g2.block _ x1.lt (fun e => by injection e with e; omega))).own _ (by omega) _ _ rfl rfl hm, (x2.keep (g2.block _ x2.lt (fun e => by injection e with e; omega))).own _ (by omega) _ _ rfl rfl hm2, fun g h e1 e2 => by injection e1 with e1; injection e1 with e1; injection e2 with e2; injection e2 with e2; omega⟩, below_grow b1 (by omega) g2⟩

set_option maxHeartbeats 800000 in
theorem eqRat_same (neg : Bool) (A B A' B' : Option Addr) (ca cb ca' cb' : Nat) (xs ys : List Int) (P P' : Nat → Prop) (w : World) (h : RdR w P xs ys A ca B cb) (h' : RdR w P' xs ys A' ca' B' cb') (hx : xs.length ≤ 16777216) (hy : ys.length ≤ 16777216) :
    Calls Try.prog 40 #[.agg #[.bool neg, .slice A xs.length ca, .slice B ys.length cb], .agg #[.bool neg, .slice A' xs.length ca', .slice B' ys.length cb']] w fun e w' => e = .returned (.bool true) ∧ Below w.heap.size w w' := by
  have H := Lib.hid h
  have H' := Lib.hid h'
  have hnn : (neg != neg) = false := by cases neg <;> rfl
  clear h h'
  go_enter Try.func40, Try.ntmps40
  go_wp2_with fail
  refine calls_at (fun W => Below w.heap.size w W ∧ RatAt W w.heap.size 43 neg A xs.length ca B ys.length cb ∧ RatAt W (w.heap.size + 1) 43 neg A' xs.length ca' B' ys.length cb')
    ⟨below2 _ _ _, (RatAt.new _ _ _ _ _ _ _ _ _).alloc _, RatAt.new1 _ _ _ _ _ _ _ _ _ _⟩ ?_
  rintro W ⟨hb, r0, r1⟩
  refine (eqIntS_same A A' _ ca _ ca' xs _ _ W (H.out.on hb).1 (H'.out.on hb).1 hx).mono ?_
  rintro e w1 ⟨rfl, d1⟩
  have b1 := d1.below W.heap.size
  have HB := Lib.hid (below_on hb b1)
  have HR0 := Lib.hid (r0.on b1)
  have HR1 := Lib.hid (r1.on b1)
  clear hb r0 r1 d1 b1
  have c02 := HR0.out.c2
  have c12 := HR1.out.c2
  go_wp2_with fail
  refine (eqIntS_same B B' _ cb _ cb' ys _ _ w1 (H.out.on HB.out).2 (H'.out.on HB.out).2 hy).mono ?_
  rintro e w2 ⟨rfl, d2⟩
  have HB2 := Lib.hid (below_on HB.out (d2.below _))
  clear d2 c02 c12
  go_wp2
  go_ret
  exact ⟨rfl, HB2.out⟩

set_option maxHeartbeats 800000 in
theorem markRat_any (neg : Bool) (A B : Option Addr) (ca cb : Nat) (xs ys : List Int) (k0 : Int) (base : Nat) (w : World) (h : OwnR 3 w base xs ys A ca B cb) (hx : xs.length ≤ 1048576) (hy : ys.length ≤ 1048576) (h0 : 0 ≤ k0) (h1 : k0 ≤ 4000000000) :
    Calls Try.prog 41 #[.agg #[.bool neg, .slice A xs.length ca, .slice B ys.length cb], .int .i64 k0] w fun e w' => e = .returned (.int .i64 (k0 + xs.length + ys.length)) ∧ OwnR 3 w' base (marks k0 xs.length) (marks (k0 + xs.length) ys.length) A ca B cb ∧ Only A B w w' := by
  have H := Lib.hid h
  clear h
  go_enter Try.func41, Try.ntmps41
  go_wp2_with fail
  refine calls_at (fun W => Below w.heap.size w W ∧ RatAt W w.heap.size 43 neg A xs.length ca B ys.length cb)
    ⟨below1 _ _, RatAt.new _ _ _ _ _ _ _ _ _⟩ ?_
  rintro W ⟨hb, r0⟩
  have H0 := Lib.hid (H.out.on hb)
  refine (markIntS_any A _ ca xs k0 base W H0.out.1 (by omega) h0 (by omega)).mono ?_
  rintro e w1 ⟨rfl, o1, g1⟩
  have s1 := g1.size
  have hW := hb.size
  have HO1 : Hid (w1.ownsRow base 3 1 (.slice B ys.length cb) ys.length (ys.map (Value.int .i64))) := own_at_block H0.out.2.1 fun g hg => g1.block g (own_block H0.out.2.1 hg).2 (fun e => H0.out.2.2 g g (ownBlock_eq e.symm H0.out.1) hg rfl)
  have HR1 : Hid (RatAt w1 w.heap.size 43 neg A xs.length ca B ys.length cb) := (g1.block _ r0.lt (fun e => own_type H0.out.1 (by decide) r0 (ownBlock_eq e.symm H0.out.1))).trans r0
  have HO1' := Lib.hid o1
  have HG1 := Lib.hid g1
  have HB0 := Lib.hid hb
  clear hb r0 o1 g1
  have c2 := HR1.out.c2
  have hk1 : 0 ≤ k0 + (xs.length : Int) := by omega
  have hk2 : k0 + (xs.length : Int) ≤ 4294967296 := by omega
  go_wp2_with fail
  refine (markIntS_any B _ cb ys (k0 + xs.length) base w1 HO1.out (by omega) hk1 hk2).mono ?_
  rintro e w2 ⟨rfl, o2, g2⟩
  have HO2 := Lib.hid o2
  have HG2 := Lib.hid g2
  have HO2' : Hid (w2.ownsRow base 3 1 (.slice A xs.length ca) xs.length ((marks k0 xs.length).map (Value.int .i64))) := own_at_block HO1'.out fun g hg => g2.block g (own_block HO1'.out hg).2 (fun e => H0.out.2.2 g g hg (ownBlock_eq e.symm HO1.out) rfl)
  clear o2 g2 c2
  go_wp2
  go_ret
  refine ⟨rfl, ⟨by rw [marks_len]; exact HO2'.out, by rw [marks_len]; exact HO2.out, H0.out.2.2⟩, ?_⟩
  refine ⟨HG2.out.os.trans (HG1.out.os.trans HB0.out.os), HG2.out.tape.trans (HG1.out.tape.trans HB0.out.tape), HG2.out.output.trans (HG1.out.output.trans HB0.out.output), by have := HG2.out.size; omega, fun k hk hA hB => ?_⟩
  have e1 := HG1.out.block k (by omega) (fun e => hA (ownBlock_eq e.symm H0.out.1))
  have e2 := HG2.out.block k (by omega) (fun e => hB (ownBlock_eq e.symm HO1.out))
  exact e2.trans (e1.trans (HB0.out.block k hk))

end Go.Proofs.Ytgeijojkfojfbaa
