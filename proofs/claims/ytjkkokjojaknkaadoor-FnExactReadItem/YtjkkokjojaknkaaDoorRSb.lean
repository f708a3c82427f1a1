import Derived.Test.YtjkkokjojaknkaaDoorRRi
import Derived.Test.YtjkkokjojaknkaaDoorWWa
namespace Go.Proofs.YtjkkokjojaknkaaDoor
open Go.RowKit

/-! What is read is no longer than its bytes. -/
theorem wtS_snoc (d : Nat) (xs : List It) (x : It) : wtS (d + 1) (xs ++ [x]) = wtS (d + 1) xs + 1 + (x.body.length + wtS d x.kids) := by
  simp [wtS]; omega
theorem closedR_size (lax : Bool) (bs : List Int) (r : Nat) (ih : ∀ (p e : Nat) {x : It} {nx : Nat}, p ≤ e → itemR lax bs r p e = .ok x nx → p + x.body.length + wtS r x.kids + 2 ≤ nx) (e : Nat) : ∀ (k : Nat) (acc : List It) (q : Nat) {ks : List It} {nx : Nat}, q ≤ e →
    closedR (fun i => itemR lax bs r i e) e k acc q = .ok ks nx → wtS (r + 1) ks + q ≤ wtS (r + 1) acc + nx := by
  intro k
  induction k with
  | zero => intro acc q ks nx _ h; simp only [closedR] at h; cases h; omega
  | succ k ih2 =>
    intro acc q ks nx hq h
    simp only [closedR] at h
    split at h
    · cases hfq : itemR lax bs r q e with
      | no c2 p2 => rw [hfq] at h; cases h
      | ok y n2 =>
        rw [hfq] at h
        have h1 := ih q e hq hfq
        have h2 := itemR_place r q e hq hfq
        have h3 := ih2 (acc ++ [y]) n2 h2.2 h
        rw [wtS_snoc] at h3
        omega
    · cases h; omega
theorem openR_size (lax : Bool) (bs : List Int) (r : Nat) (ih : ∀ (p e : Nat) {x : It} {nx : Nat}, p ≤ e → itemR lax bs r p e = .ok x nx → p + x.body.length + wtS r x.kids + 2 ≤ nx) (e : Nat) : ∀ (k : Nat) (acc : List It) (q : Nat) {ks : List It} {nx : Nat}, q ≤ e →
    openR (fun i => itemR lax bs r i e) bs e k acc q = .ok ks nx → wtS (r + 1) ks + q ≤ wtS (r + 1) acc + nx := by
  intro k
  induction k with
  | zero => intro acc q ks nx _ h; simp only [openR] at h; cases h
  | succ k ih2 =>
    intro acc q ks nx hq h
    simp only [openR] at h
    split at h
    · cases h
    · split at h
      · split at h
        · cases h
        · split at h
          · cases h; omega
          · cases h
      · cases hfq : itemR lax bs r q e with
        | no c2 p2 => rw [hfq] at h; cases h
        | ok y n2 =>
          rw [hfq] at h
          have h1 := ih q e hq hfq
          have h2 := itemR_place r q e hq hfq
          have h3 := ih2 (acc ++ [y]) n2 h2.2 h
          rw [wtS_snoc] at h3
          omega
theorem wtS_nil (d : Nat) : wtS d [] = 0 := by cases d <;> simp [wtS]
theorem itemR_size (lax : Bool) (bs : List Int) : ∀ (r p e : Nat) {x : It} {nx : Nat}, p ≤ e → itemR lax bs r p e = .ok x nx → p + x.body.length + wtS r x.kids + 2 ≤ nx := by
  intro r
  induction r with
  | zero => intro p e x nx hp h; simp only [itemR] at h; cases h
  | succ r ih =>
    intro p e x nx hp h
    simp only [itemR] at h
    split at h
    · cases h
    · cases ht : tagR lax bs p e with
      | no c q => rw [ht] at h; cases h
      | ok t q =>
        rw [ht] at h
        have h1 := tagR_place (by omega) ht
        simp only at h
        cases hl : lenR lax (consN bs p) bs q e with
        | no c q2 => rw [hl] at h; cases h
        | ok o q2 =>
          rw [hl] at h
          have h2 := lenR_place h1.2 hl
          cases o with
          | none =>
            simp only [bodyR] at h
            cases ho : openR (fun i => itemR lax bs r i e) bs e (e - q2 + 1) [] q2 with
            | no c q3 => rw [ho] at h; cases h
            | ok ks q3 =>
              rw [ho] at h
              have h3 := openR_size lax bs r ih e _ _ _ h2.2 ho
              rw [wtS_nil] at h3
              cases h
              show p + ([] : List Int).length + wtS (r + 1) ks + 2 ≤ (none : Option Nat).getD q3
              simp only [List.length_nil, Option.getD_none]
              omega
          | some n =>
            simp only [bodyR] at h
            split at h
            · cases h
            · split at h
              · cases hc : closedR (fun i => itemR lax bs r i (q2 + n)) (q2 + n) n [] q2 with
                | no c q3 => rw [hc] at h; cases h
                | ok ks q3 =>
                  rw [hc] at h
                  have h3 := closedR_size lax bs r ih (q2 + n) _ _ _ (by omega) hc
                  have h4 := closedR_place (fun p x nx hp h => itemR_place r p (q2 + n) (by omega) h) _ _ _ (by omega) (by omega) hc
                  rw [wtS_nil] at h3
                  cases h
                  show p + ([] : List Int).length + wtS (r + 1) ks + 2 ≤ (some (q2 + n) : Option Nat).getD q3
                  simp only [List.length_nil, Option.getD_some]
                  omega
              · cases h
                show p + ((bs.drop q2).take n).length + wtS (r + 1) [] + 2 ≤ q2 + n
                have := List.length_take_le n (bs.drop q2)
                rw [wtS_nil]
                omega

/-! What both functions answer, in one form. -/
def yO (R : Rs It) : It := match R with | .ok x _ => x | .no _ _ => zeroIt
def cO (R : Rs It) : Int := match R with | .ok _ _ => 0 | .no c _ => (c : Int)
def pO (R : Rs It) : Int := match R with | .ok _ _ => 0 | .no _ p => (p : Int)
theorem readR_size (lax : Bool) (bs : List Int) : (yO (readR lax bs)).body.length + wtS 12 (yO (readR lax bs)).kids ≤ 20000 := by
  unfold readR
  split
  · exact Nat.zero_le _
  · cases hi : itemR lax bs 12 0 bs.length with
    | no c p => exact Nat.zero_le _
    | ok x nx =>
      have h1 := itemR_size lax bs 12 0 bs.length (Nat.zero_le _) hi
      have h2 := itemR_place 12 0 bs.length (Nat.zero_le _) hi
      simp only
      split
      · exact Nat.zero_le _
      · show x.body.length + wtS 12 x.kids ≤ 20000
        omega
theorem RiPost.out {R : Rs It} {w w' : World} {ev : Ending} (h : RiPost R w ev w') : Below w.heap.size w w' ∧ ∃ ab nb cb ak nk ck M, ev = .returned (.tuple #[itv (yO R) ab nb cb ak nk ck, .int .i64 (cO R), .int .i64 (pO R)]) ∧ w.heap.size ≤ M ∧ M ≤ w'.heap.size ∧ OwnB w.heap.size M w' ab nb cb (yO R).body ∧ OwnKids 12 M w'.heap.size w' ak nk (yO R).kids := by
  refine ⟨h.1, ?_⟩
  have h2 := h.2
  cases R with
  | ok x nx => exact h2
  | no c p =>
    obtain rfl := h2
    exact ⟨none, 0, 0, none, 0, 0, w'.heap.size, rfl, h.1.size, Nat.le_refl _, ownB_none _ _ _, ownKids_nil 11 _ _ _ none⟩

end Go.Proofs.YtjkkokjojaknkaaDoor

namespace Go.Proofs.YtjkkokjojaknkaaDoor
open Go.RowKit

set_option maxRecDepth 10000 in
set_option maxHeartbeats 20000000 in
theorem lawReadItem_walk (a : Option Addr) (n cap : Nat) (lax : Bool) (bs : List Int) (w : World) (hE : ErrT w) (hrow : Row w a n bs) (hn63 : n ≤ 9223372036854775807) :
    Calls Tryd.prog 6 #[.slice a n cap, .bool lax] w fun e w' => e = .returned (.bool true) ∧ Below w.heap.size w w' := by
  have HR : Hid (Row w a n bs) := hrow
  have HE : Hid (ErrT w) := hE
  have hw0 : 0 < w.heap.size := hE.1
  clear hrow hE
  by_cases hbig : n ≤ 1048576
  · have hbi : ¬ (1048576 : Int) < (n : Int) := by omega
    have HSZ0 := readR_size lax bs
    have HOUT : ∀ {w w' : World} {ev : Ending}, RiPost (readR lax bs) w ev w' → _ := fun h => RiPost.out h
    obtain ⟨y, hy⟩ : ∃ y, y = yO (readR lax bs) := ⟨_, rfl⟩
    obtain ⟨c, hc⟩ : ∃ c, c = cO (readR lax bs) := ⟨_, rfl⟩
    obtain ⟨p, hp⟩ : ∃ p, p = pO (readR lax bs) := ⟨_, rfl⟩
    rw [← hy] at HSZ0
    have HO : Hid (∀ (w w' : World) (ev : Ending), RiPost (readR lax bs) w ev w' → Below w.heap.size w w' ∧ ∃ ab nb cb ak nk ck M, ev = .returned (.tuple #[itv y ab nb cb ak nk ck, .int .i64 c, .int .i64 p]) ∧ w.heap.size ≤ M ∧ M ≤ w'.heap.size ∧ OwnB w.heap.size M w' ab nb cb y.body ∧ OwnKids 12 M w'.heap.size w' ak nk y.kids) := by
      intro w w' ev h
      have := h.out
      rw [hy, hc, hp]
      exact this
    have HSZ : Hid (y.body.length + wtS 12 y.kids ≤ 20000) := HSZ0
    clear HOUT HSZ0 hy hc hp
    have t1 : (c != c) = false := by simp
    have t2 : (p != p) = false := by simp
    go_enter Tryd.func6, Tryd.ntmps6
    go_wp2_with fail
    refine (toByteS_any a n cap bs _ HR.out hbig).mono ?_
    rintro e w1 ⟨a1, rfl, o1, B1⟩
    go_wp2_with fail
    refine (specReadItem_any a1 n n lax bs w1 o1.toRow (Nat.le_refl _) hn63).mono ?_
    rintro e w2 hp2
    obtain ⟨b2, abw, nbw, cbw, akw, nkw, ckw, Mw, rfl, mw1, mw2, obw, okw⟩ := HO.out _ _ _ hp2
    have z1 := B1.size
    have z2 := b2.size
    have B2 : Below w.heap.size w w2 := B1.trans (b2.mono z1)
    have B3 : Below w.heap.size w (w2.alloc (.cells #[.int .i64 y.cls, .int .i64 y.tag, .bool y.cons, .slice abw nbw cbw, .slice akw nkw ckw] 26)) := B2.alloc B2.size _
    have TW3 : Hid (_) := tree_new (y := y) (cb := cbw) (ck := ckw) obw okw mw1 mw2
    have zz3 : (w2.alloc (.cells #[.int .i64 y.cls, .int .i64 y.tag, .bool y.cons, .slice abw nbw cbw, .slice akw nkw ckw] 26)).heap.size = w2.heap.size + 1 := by simp
    clear hp2 obw okw o1 B1 b2
    unfold itv
    go_wp2_with fail
    obtain ⟨W3, hW3⟩ : ∃ W3, W3 = w2.alloc (.cells #[.int .i64 y.cls, .int .i64 y.tag, .bool y.cons, .slice abw nbw cbw, .slice akw nkw ckw] 26) := ⟨_, rfl⟩
    rw [← hW3] at TW3 B3 zz3 ⊢
    clear hW3
    refine (toByteS_any a n cap bs _ (HR.out.kept B3) hbig).mono ?_
    rintro e w4 ⟨a4, rfl, o4, b4⟩
    have z4 := b4.size
    have B4 : Below w.heap.size w w4 := B3.trans (b4.mono B3.size)
    have TW4 : Hid (_) := TW3.out.kept b4
    have X4 : Hid (OwnB W3.heap.size w4.heap.size w4 a4 n n bs) := o4.ownB
    clear o4 b4 TW3
    go_wp2_with fail
    refine (implReadItem_any a4 n n lax bs w4 (HE.out.below hw0 B4) X4.out.own.toRow (Nat.le_refl _) hn63).mono ?_
    rintro e w5 hp5
    obtain ⟨b5, abg, nbg, cbg, akg, nkg, ckg, Mg, rfl, mg1, mg2, obg, okg⟩ := HO.out _ _ _ hp5
    have z5 := b5.size
    have B5 : Below w.heap.size w w5 := B4.trans (b5.mono B4.size)
    have hal6 : Below w5.heap.size w5 (w5.alloc (.cells #[.int .i64 y.cls, .int .i64 y.tag, .bool y.cons, .slice abg nbg cbg, .slice akg nkg ckg] 26)) := (Below.refl _ _).alloc (Nat.le_refl _) _
    have B6 : Below w.heap.size w (w5.alloc (.cells #[.int .i64 y.cls, .int .i64 y.tag, .bool y.cons, .slice abg nbg cbg, .slice akg nkg ckg] 26)) := B5.alloc B5.size _
    have TG6 : Hid (_) := tree_new (y := y) (cb := cbg) (ck := ckg) obg okg mg1 mg2
    have TW6 : Hid (_) := (TW4.out.kept b5).kept hal6
    have X6 : Hid (_) := (X4.out.kept b5).kept hal6
    have zz6 : (w5.alloc (.cells #[.int .i64 y.cls, .int .i64 y.tag, .bool y.cons, .slice abg nbg cbg, .slice akg nkg ckg] 26)).heap.size = w5.heap.size + 1 := by simp
    have hnbg : nbg ≤ 20000 := by have := HSZ.out; have := obg.own.length; omega
    have hwtg : Hid (nbg + wtS 12 y.kids ≤ 20000) := by show _ ≤ _; have := HSZ.out; have := obg.own.length; omega
    obtain ⟨r0, r1, r2, r3, r4⟩ := TW6.out.box.cells
    obtain ⟨u0, u1, u2, u3, u4⟩ := TG6.out.box.cells
    clear hp5 obg okg b5 hal6 TW4 X4
    unfold itv
    go_wp2_with fail
    obtain ⟨W6, hW6⟩ : ∃ W6, W6 = w5.alloc (.cells #[.int .i64 y.cls, .int .i64 y.tag, .bool y.cons, .slice abg nbg cbg, .slice akg nkg ckg] 26) := ⟨_, rfl⟩
    rw [← hW6] at TG6 TW6 X6 B6 zz6 ⊢
    clear hW6 r0 r1 r2 r3 r4 u0 u1 u2 u3 u4
    refine Calls.mono (TG6.out.eq TW6.out) ?_
    rintro e w7 ⟨rfl, b7⟩
    have z7 := b7.size
    have B7 : Below w.heap.size w w7 := B6.trans (b7.mono B6.size)
    have TG7 : Hid (_) := TG6.out.kept b7
    have TW7 : Hid (_) := TW6.out.kept b7
    have X7 : Hid (_) := X6.out.kept b7
    clear b7 TG6 TW6 X6
    go_wp2_with fail
    refine (toByteS_any a n cap bs _ (HR.out.kept B7) hbig).mono ?_
    rintro e w8 ⟨a8, rfl, o8, b8⟩
    have z8 := b8.size
    have B8 : Below w.heap.size w w8 := B7.trans (b8.mono B7.size)
    have X8 := X7.out.kept b8
    go_wp2_with fail
    refine (eqByteS_any a4 a8 n n n n bs bs _ X8.own.toRow o8.toRow (by unfold maxLen; omega) (by unfold maxLen; omega)).mono ?_
    rintro e w9 ⟨rfl, b9⟩
    rw [decide_eq_true (rfl : bs = bs)]
    have z9 := b9.size
    have b79 : Below w7.heap.size w7 w9 := b8.trans (b9.mono z8)
    have B9 : Below w.heap.size w w9 := B8.trans (b9.mono B8.size)
    have TG9 : Hid (_) := TG7.out.kept b79
    have TW9 : Hid (_) := TW7.out.kept b79
    have X9 : Hid (_) := X8.kept b9
    clear b8 b9 b79 o8 X8 TG7 TW7 X7
    go_wp2_with fail
    refine (markByteS_any W3.heap.size a4 n n 1 bs w9 X9.out.own (by omega) (by omega)).mono ?_
    rintro e wA ⟨rfl, oA, gA⟩
    have tA : Touch W3.heap.size w4.heap.size w9 wA := X9.out.wrote gA
    have zA := tA.size
    have BA : Below w.heap.size w wA := B9.trans (tA.below (by omega) (by omega))
    have TGA : Hid (_) := TG9.out.touch (.inr (by omega)) (.inr (by omega)) tA
    have TWA : Hid (_) := TW9.out.touch (.inl (by omega)) (.inl (by omega)) tA
    obtain ⟨r0, r1, r2, r3, r4⟩ := TWA.out.box.cells
    obtain ⟨u0, u1, u2, u3, u4⟩ := TGA.out.box.cells
    obtain ⟨qn, hqn⟩ : ∃ qn : Int, qn = ((1 + n : Nat) : Int) := ⟨_, rfl⟩
    rw [← hqn]
    have gqn : ¬ qn < 0 := by omega
    clear hqn oA gA tA TG9 TW9 X9
    go_wp2_with fail
    refine Calls.mono (TGA.out.eq TWA.out) ?_
    rintro e wB ⟨rfl, bB⟩
    have zB := bB.size
    have BB : Below w.heap.size w wB := BA.trans (bB.mono BA.size)
    have TGB : Hid (_) := TGA.out.kept bB
    have TWB : Hid (_) := TWA.out.kept bB
    clear r0 r1 r2 r3 r4 u0 u1 u2 u3 u4 bB TGA TWA
    obtain ⟨u0, u1, u2, u3, u4⟩ := TGB.out.box.cells
    go_wp2_with fail
    refine (markItem_int 12 w4.heap.size Mg w5.heap.size y abg nbg cbg akg nkg ckg 1 1 rfl wB TGB.out.body TGB.out.kids mg1 mg2 (by omega) (by have := hwtg.out; omega)).mono ?_
    rintro e wJ ⟨rfl, obJ, okJ, tJ⟩
    have zJ := tJ.size
    have BJ : Below w.heap.size w wJ := BB.trans (tJ.below (by omega) (by omega))
    have bxJ := TGB.out.box.touch (.inr (by omega)) tJ
    have TWJ : Hid (_) := TWB.out.touch (.inl (by omega)) (.inl (by omega)) tJ
    clear u0 u1 u2 u3 u4
    obtain ⟨u0, u1, u2, u3, u4⟩ := bxJ.cells
    have BXJ : Hid (_) := bxJ
    have OBJ : Hid (_) := obJ
    have OKJ : Hid (OwnKids 12 Mg w5.heap.size wJ akg nkg (mkS 12 y.kids (1 + nbg)).1) := okJ
    have HELD : ∀ W : World, Row W abg nbg (marks 1 nbg) → Kids 12 W akg nkg (mkS 12 y.kids (1 + nbg)).1 → Hid (Calls Tryd.prog 28 #[itv y abg nbg cbg akg nkg ckg, .int .i64 1] W fun e w' => e = .returned (.int .i64 ((mkS 12 y.kids (1 + nbg)).2 : Nat)) ∧ Below W.heap.size W w') := fun W hb hk => heldItem_any 12 y abg nbg cbg akg nkg ckg 1 1 rfl W hb hk (by have := hwtg.out; omega)
    obtain ⟨m, hme⟩ : ∃ m, m = (mkS 12 y.kids (1 + nbg)).2 := ⟨_, rfl⟩
    rw [← hme] at HELD ⊢
    have gm : ¬ (m : Int) < 0 := by omega
    clear hme tJ bxJ obJ okJ TGB TWB
    go_wp2_with fail
    refine Calls.mono (HELD wJ OBJ.out.own.toRow OKJ.out.kids).out ?_
    rintro e wK ⟨rfl, bK⟩
    have zK := bK.size
    have BK : Below w.heap.size w wK := BJ.trans (bK.mono BJ.size)
    have TWK : Hid (_) := TWJ.out.kept bK
    have BXK : Hid (_) := BXJ.out.kept bK
    have OBK : Hid (_) := OBJ.out.kept bK
    have OKK : Hid (OwnKids 12 Mg w5.heap.size wK akg nkg (mkS 12 y.kids (1 + nbg)).1) := OKJ.out.kept bK
    clear u0 u1 u2 u3 u4 bK TWJ BXJ OBJ OKJ
    go_wp2_with fail
    refine (toByteS_any a n cap bs _ (HR.out.kept BK) hbig).mono ?_
    rintro e wL ⟨aL, rfl, oL, bL⟩
    have zL := bL.size
    have BL : Below w.heap.size w wL := BK.trans (bL.mono BK.size)
    go_wp2_with fail
    refine (implReadItem_any aL n n lax bs wL (HE.out.below hw0 BL) oL.toRow (Nat.le_refl _) hn63).mono ?_
    rintro e wN hpN
    obtain ⟨bN, abN, nbN, cbN, akN, nkN, ckN, MN, rfl, mN1, mN2, obN, okN⟩ := HO.out _ _ _ hpN
    have zN := bN.size
    have BN : Below w.heap.size w wN := BL.trans (bN.mono BL.size)
    have bKN : Below wK.heap.size wK wN := bL.trans (bN.mono zL)
    have halN : Below wN.heap.size wN (wN.alloc (.cells #[.int .i64 y.cls, .int .i64 y.tag, .bool y.cons, .slice abN nbN cbN, .slice akN nkN ckN] 26)) := (Below.refl _ _).alloc (Nat.le_refl _) _
    have BO : Below w.heap.size w (wN.alloc (.cells #[.int .i64 y.cls, .int .i64 y.tag, .bool y.cons, .slice abN nbN cbN, .slice akN nkN ckN] 26)) := BN.alloc BN.size _
    have THO : Hid (_) := tree_new (y := y) (cb := cbN) (ck := ckN) obN okN mN1 mN2
    have TWO : Hid (_) := (TWK.out.kept bKN).kept halN
    have BXO : Hid (_) := (BXK.out.kept bKN).kept halN
    have OBO : Hid (_) := (OBK.out.kept bKN).kept halN
    have OKO : Hid (OwnKids 12 Mg w5.heap.size _ akg nkg (mkS 12 y.kids (1 + nbg)).1) := (OKK.out.kept bKN).kept halN
    obtain ⟨r0, r1, r2, r3, r4⟩ := TWO.out.box.cells
    obtain ⟨p0, p1, p2, p3, p4⟩ := THO.out.box.cells
    clear hpN obN okN bN halN bKN bL oL TWK BXK OBK OKK
    unfold itv
    go_wp2_with fail
    refine Calls.mono (THO.out.eq TWO.out) ?_
    rintro e wP ⟨rfl, bP⟩
    have BP : Below w.heap.size w wP := BO.trans (bP.mono BO.size)
    have BXP : Hid (_) := BXO.out.kept bP
    have OBP : Hid (_) := OBO.out.kept bP
    have OKP : Hid (OwnKids 12 Mg w5.heap.size wP akg nkg (mkS 12 y.kids (1 + nbg)).1) := OKO.out.kept bP
    obtain ⟨u0, u1, u2, u3, u4⟩ := BXP.out.cells
    clear bP TWO BXO OBO OKO THO r0 r1 r2 r3 r4 p0 p1 p2 p3 p4
    go_wp2_with fail
    refine Calls.mono (HELD wP OBP.out.own.toRow OKP.out.kids).out ?_
    rintro e wQ ⟨rfl, bQ⟩
    have BQ : Below w.heap.size w wQ := BP.trans (bQ.mono BP.size)
    clear bQ u0 u1 u2 u3 u4 BXP OBP OKP
    go_wp2
    go_ret
    exact ⟨rfl, BQ⟩
  · have hbi : (1048576 : Int) < (n : Int) := by omega
    go_enter Tryd.func6, Tryd.ntmps6
    go_wp2
    go_ret
    exact ⟨rfl, Below.refl _ _⟩

end Go.Proofs.YtjkkokjojaknkaaDoor
