import Derived.Test.YtglmaoigjnoklaaG0
import Derived.Test.YtglmaoigjnoklaaG1
import Derived.Test.YtglmaoigjnoklaaF6
import Derived.Deep.CutRange
import Derived.BigQuiet
namespace Go.Proofs.Ytglmaoigjnoklaa
open Go.RowKit

theorem plusP_zero (a : Int) : plusP a 0 = a := by
  unfold plusP
  split <;> omega
theorem pick_start (L : Nat → Sp) (ks : List Int) (p : Nat) (h : 0 < ks.length) (hp : (p : Int) = ks.getD 0 0) (hm : 0 ≤ (L p).m) : ks.foldl (pickStep L) ⟨(L p).f, 0, false⟩ = pickSp L ks := by
  unfold pickSp
  cases ks with
  | nil => simp at h
  | cons k ks =>
    have e : k.toNat = p := by
      have : k = p := by simpa using hp.symm
      rw [this, Int.toNat_natCast]
    rw [List.foldl_cons, List.foldl_cons]
    congr 1
    unfold pickStep
    rw [show ((k :: ks).getD 0 0) = k from rfl, e]
    congr 1
    · show max 0 (L p).m = max (L p).m (L p).m
      omega
    · show (false || (L p).k) = ((L p).k || (L p).k)
      cases (L p).k <;> rfl

set_option maxRecDepth 10000 in
set_option maxHeartbeats 8000000 in
theorem l4Bounds_any (a : Option Addr) (n c : Nat) (xs : List ST) (w : World) (h : Sts w a n xs) (h40 : n ≤ 40) (hF : ∀ t, t < n → fieldsP (xs.getD t default)) (hb : ∀ t, t < n → behindP (xs.getD t default).kids t n) (h9 : ∀ t, t < n → (xs.getD t default).kind = 9 → 0 ≤ (xs.getD t default).lo ∧ (xs.getD t default).lo ≤ 12) :
    Calls Try.prog 24 #[.slice a n c] w fun e w' => ∃ g1 g2, e = .returned (.tuple #[.slice (some ⟨g1, 0, none⟩) n n, .slice (some ⟨g2, 0, none⟩) n n]) ∧ ArrM w' g1 n (fun i => (spA xs n i).f) ∧ ArrM w' g2 n (fun i => (spA xs n i).hi) ∧ Below w.heap.size w w' := by
  have HS : Hid (Sts w a n xs) := h
  have HL : Hid (xs.length = n) := h.len
  have HF : Hid (_) := hF
  have HB : Hid (_) := hb
  have H9 : Hid (_) := h9
  have HOK : Hid (∀ j, j ≤ n → ∀ i, (spA xs j i).ok 1000000000000000) := fun j hj => spA_ok xs (fun t ht => hF t (by rw [h.len] at ht; exact ht)) j (by rw [h.len]; exact hj)
  obtain ⟨i0, hi, hz0, hz1, hz2⟩ := info_parts Try.info2i
  clear h hF hb h9
  go_enter Try.func24, Try.ntmps24
  go_wp2_with (first | (at_make; have mk2 := hown1; refine wpList_make_full _ rfl _ _ 32 rfl w1.heap.size 2 i0 (.int .i64 0) 1 Try.underlying32 hi hz0 hz1 _ _ _ _ n rfl rfl rfl rfl (by rw [hz2]; omega) (by unfold maxLen; omega) (by exact Nat.le_refl _) ?_; intro w2 hown2 hgrow2) | (at_make; refine wpList_make_full _ rfl _ _ 32 rfl w.heap.size 2 i0 (.int .i64 0) 1 Try.underlying32 hi hz0 hz1 _ _ _ _ n rfl rfl rfl rfl (by rw [hz2]; omega) (by unfold maxLen; omega) (by exact Nat.le_refl _) ?_; intro w1 hown1 hgrow1))
  have hlt1 : w.heap.size < w1.heap.size := (hown1.lt _ rfl).2
  have hlt2 : w1.heap.size < w2.heap.size := (hown2.lt _ rfl).2
  have B1 : Below w.heap.size w w1 := (Below.refl _ _).grown hgrow1 (Nat.le_refl _) (by simp)
  have B2 : Below w.heap.size w w2 := B1.grown hgrow2 (by omega) (by simp)
  have A2 := arrM_made hown2
  have A1 := (arrM_made hown1).kept (hgrow2.block _ hlt1 (by simp))
  have F0 : Hid (_ ∧ _ ∧ _) := ⟨A1, A2, B2⟩
  have hz1' := hgrow2.size
  obtain ⟨g2, hg2⟩ : ∃ g2, g2 = w1.heap.size := ⟨_, rfl⟩
  rw [← hg2] at F0 ⊢
  have hg2lt : w.heap.size < g2 := by omega
  clear hown1 hown2 hgrow1 hgrow2 A1 A2 B1 B2 hg2 hlt1 hlt2 hz1' mk2
  go_loopw [6] (fun i wr => ∃ T1 : Nat, T1 ≤ n ∧ i = .int .i64 ((T1 : Int) - 1) ∧ ArrM wr w.heap.size n (fun i => (spA xs (n - T1) i).f) ∧ ArrM wr g2 n (fun i => (spA xs (n - T1) i).hi) ∧ Below w.heap.size w wr) (fun i _ => (intOf i + 1).toNat)
  case atStart => exact ⟨n, Nat.le_refl _, rfl, by rw [Nat.sub_self]; exact F0.out.1, by rw [Nat.sub_self]; exact F0.out.2.1, F0.out.2.2⟩
  case round =>
    obtain ⟨T1, hT, rfl, a1, a2, hbr⟩ := hrel
    cases T1 with
    | zero =>
      have F : Hid (_ ∧ _ ∧ _) := ⟨a1, a2, hbr⟩
      clear a1 a2 hbr
      go_wp2
      go_ret2
      exact ⟨w.heap.size, g2, rfl, by have := F.out.1; rw [Nat.sub_zero] at this; exact this, by have := F.out.2.1; rw [Nat.sub_zero] at this; exact this, F.out.2.2⟩
    | succ T =>
      have e0 : ((T + 1 : Nat) : Int) - 1 = (T : Int) := by omega
      rw [e0]
      clear e0
      obtain ⟨j, hj⟩ : ∃ j, j = n - (T + 1) := ⟨_, rfl⟩
      rw [← hj] at a1 a2
      have HJ : Hid (j = n - (T + 1)) := hj
      obtain ⟨b, off, rfl, hlb, ak, nk, ck, hcs, hr, hnk⟩ := HS.out.get T (by omega)
      obtain ⟨x, hx⟩ : ∃ x, x = xs.getD T default := ⟨_, rfl⟩
      rw [← hx] at hcs hr
      have HX : Hid (x = xs.getD T default) := hx
      have hf : fieldsP x := by rw [hx]; exact HF.out T (by omega)
      have h9 : x.kind = 9 → 0 ≤ x.lo ∧ x.lo ≤ 12 := by rw [hx]; exact H9.out T (by omega)
      obtain ⟨c0, c1, c2, c3, c4, c5⟩ := hcs.of (w' := wr) (fun i => hbr.cell (p := ⟨b, i, none⟩) hlb)
      have t2 : (T : Int) < (n : Int) := by omega
      have t3 : (0 : Int) ≤ (T : Int) := by omega
      have hlohi : -1000000000000000 ≤ x.lo ∧ x.lo ≤ 1000000000000000 ∧ -1000000000000000 ≤ x.hi ∧ x.hi ≤ 1000000000000000 := by
        unfold fieldsP bnd at hf
        by_cases h : x.kind = 9
        · have := h9 h; omega
        · omega
      have HFX : Hid (fieldsP x) := hf
      have HN9 : Hid (_) := h9
      obtain ⟨W1, hW1⟩ : ∃ W1, W1 = wr.alloc (.cells #[.int .i64 x.kind, .int .i64 x.lo, .int .i64 x.hi, .bool x.ext, .bool x.opt, .slice ak nk ck] 37) := ⟨_, rfl⟩
      have HW1 : Hid (_ = _) := hW1
      have hbw : Below wr.heap.size wr W1 := by rw [hW1]; exact (Below.refl _ _).alloc (Nat.le_refl _) _
      have BS : BoxS 37 wr.heap.size W1 x ak nk ck := by rw [hW1]; exact boxS_new _ wr x ak nk ck
      have FA : Hid (ArrM W1 w.heap.size n (fun i => (spA xs j i).f) ∧ ArrM W1 g2 n (fun i => (spA xs j i).hi) ∧ Below w.heap.size w W1) := ⟨a1.kept (hbw.block _ a1.lt), a2.kept (hbw.block _ a2.lt), hbr.trans (hbw.mono hbr.size)⟩
      obtain ⟨d0, d1, d2, d3, d4, d5⟩ := BS.cells
      clear hW1 hj hcs hx hf h9 a1 a2 BS hbw
      go_upto_region 7 with fail
      rw [← HW1.out]
      clear HW1 c0 c1 c2 c3 c4 c5
      go_wp2_with fail
      refine (l4Width_any (x.hi - x.lo + 1) _ (by omega)).mono ?_
      rintro e w3 ⟨rfl, rfl⟩
      have hw0 := wid_nonneg (x.hi - x.lo + 1)
      have hw62 := wid_le (x.hi - x.lo + 1) 62 (by omega)
      obtain ⟨wd, hwd⟩ : ∃ wd, wd = wid (x.hi - x.lo + 1) := ⟨_, rfl⟩
      rw [← hwd] at hw0 hw62 ⊢
      have HWD : Hid (wd = wid (x.hi - x.lo + 1)) := hwd
      clear hwd
      go_upto_region 9 with fail
      iterate 8 (first | go_values | go_skip | go_guarded | go_step | go_upon | go_back)
      obtain ⟨s, hs⟩ : ∃ s, s = spanP xs (spA xs j) x := ⟨_, rfl⟩
      have HSP : Hid (s = spanP xs (spA xs j) x) := hs
      have hso : s.ok 2000000000000000000 := by rw [hs]; exact spanP_ok xs _ (HOK.out j (by have := HJ.out; omega)) x HFX.out
      have HSO : Hid (_) := hso
      clear hs hso
      go_cut [9, 10] from 26 to 246 (fun va vb wx => va = .int .i64 s.f ∧ vb = .int .i64 s.hi ∧ ArrM wx w.heap.size n (fun i => (spA xs j i).f) ∧ ArrM wx g2 n (fun i => (spA xs j i).hi) ∧ Below w.heap.size w wx)
      case first =>
        have hall : x.kind = 1 ∨ x.kind = 2 ∨ x.kind = 3 ∨ x.kind = 4 ∨ x.kind = 5 ∨ x.kind = 6 ∨ x.kind = 7 ∨ x.kind = 8 ∨ x.kind = 9 := by have := HFX.out; unfold fieldsP at this; omega
        have hbn := HFX.out
        unfold fieldsP bnd at hbn
        rcases hall with hk | hk | hk | hk | hk | hk | hk | hk | hk
        · clear_value *
          as_aux_lemma =>
          skip
          have EF : Hid (s = numSp 2) := by show _ = _; rw [HSP.out]; unfold spanP; rw [if_pos hk]
          rw [hk] at d0
          clear hk hbn
          go_wp2
          go_meet
          exact ⟨by rw [EF.out]; show _ = Value.int .i64 (wid 2); rw [wid2], by rw [EF.out]; show _ = Value.int .i64 (wid 2); rw [wid2], FA.out⟩
        · clear_value *
          as_aux_lemma =>
          skip
          have EF : Hid (s = numSp (x.hi - x.lo + 1)) := by show _ = _; rw [HSP.out]; unfold spanP; rw [if_neg (by omega), if_pos hk]
          rw [hk] at d0
          clear hk hbn
          go_wp2
          go_meet
          exact ⟨by rw [EF.out]; show _ = Value.int .i64 (wid (x.hi - x.lo + 1)); rw [HWD.out], by rw [EF.out]; show _ = Value.int .i64 (wid (x.hi - x.lo + 1)); rw [HWD.out], FA.out⟩
        · clear_value *
          as_aux_lemma =>
          have hb : 0 ≤ x.lo ∧ x.lo ≤ x.hi ∧ x.hi ≤ 1000 := by omega
          have EF : Hid (s = rowSp x.lo x.hi (numSp 256)) := by show _ = _; rw [HSP.out]; unfold spanP; rw [if_neg (by omega), if_neg (by omega), if_pos hk]
          rw [hk] at d0
          clear hk hbn
          go_wp2
          go_meet
          exact ⟨by rw [EF.out]; show _ = Value.int .i64 (x.lo * wid 256 + wid (x.hi - x.lo + 1)); rw [wid256, ← HWD.out, Int.mul_comm, Int.add_comm], by rw [EF.out]; show _ = Value.int .i64 (x.hi * wid 256 + wid (x.hi - x.lo + 1)); rw [wid256, ← HWD.out, Int.mul_comm, Int.add_comm], FA.out⟩
        · clear_value *
          as_aux_lemma =>
          have hb : 0 ≤ x.lo ∧ x.lo ≤ x.hi ∧ x.hi ≤ 1000 := by omega
          have EF : Hid (s = rowSp x.lo x.hi (numSp 95)) := by show _ = _; rw [HSP.out]; unfold spanP; rw [if_neg (by omega), if_neg (by omega), if_neg (by omega), if_pos hk]
          rw [hk] at d0
          clear hk hbn
          go_wp2
          go_meet
          exact ⟨by rw [EF.out]; show _ = Value.int .i64 (x.lo * wid 95 + wid (x.hi - x.lo + 1)); rw [wid95, ← HWD.out, Int.mul_comm, Int.add_comm], by rw [EF.out]; show _ = Value.int .i64 (x.hi * wid 95 + wid (x.hi - x.lo + 1)); rw [wid95, ← HWD.out, Int.mul_comm, Int.add_comm], FA.out⟩
        · clear_value *
          as_aux_lemma =>
          have hb : 0 ≤ x.hi ∧ x.hi ≤ 1000 := by omega
          have EF : Hid (s = enumSp x.hi x.ext) := by show _ = _; rw [HSP.out]; unfold spanP; rw [if_neg (by omega), if_neg (by omega), if_neg (by omega), if_neg (by omega), if_pos hk]
          rw [hk] at d0
          clear hk hbn
          have v0 := wid_nonneg (x.hi + 1)
          have v10 := wid_le (x.hi + 1) 10 (by omega)
          obtain ⟨wv, hwv⟩ : ∃ wv, wv = wid (x.hi + 1) := ⟨_, rfl⟩
          have HWV : Hid (wv = wid (x.hi + 1)) := hwv
          obtain ⟨ex, hex⟩ : ∃ ex, ex = x.ext := ⟨_, rfl⟩
          have HE : Hid (ex = x.ext) := hex
          rw [← hex] at d3
          rw [← hwv] at v0 v10
          go_wp2_with fail
          refine (l4Width_any (x.hi + 1) _ (by omega)).mono ?_
          rintro e w4 ⟨rfl, rfl⟩
          rw [← hwv]
          clear hwv hex
          cases ex with
          | false =>
            have ES : Hid (s = numSp (x.hi + 1)) := by show _ = _; rw [EF.out, ← HE.out]; rfl
            go_wp2
            go_meet
            exact ⟨by rw [ES.out, HWV.out]; rfl, by rw [ES.out, HWV.out]; rfl, FA.out⟩
          | true =>
            have ES : Hid (s.f = 1 + wv ∧ s.hi = 21) := by
              rw [EF.out, ← HE.out]
              show (wid (x.hi + 1) + (flagSp true).f = 1 + wv ∧ (if (false || false) = true then (-2 : Int) else max (wid (x.hi + 1)) (wid 1000001) + (flagSp true).m) = 21)
              rw [show (flagSp true).f = wid 2 from rfl, show (flagSp true).m = wid 2 from rfl, wid2, widE, ← HWV.out]
              refine ⟨by omega, ?_⟩
              rw [if_neg (by decide)]
              omega
            go_wp2_with fail
            refine (l4Width_any 1000001 _ (by decide)).mono ?_
            rintro e w4 ⟨rfl, rfl⟩
            rw [widE]
            go_wp2_with fail
            refine (l4Width_any 1000001 _ (by decide)).mono ?_
            rintro e w4 ⟨rfl, rfl⟩
            rw [widE]
            go_wp2
            go_meet
            exact ⟨by rw [ES.out.1], by rw [ES.out.2], FA.out⟩
        · clear_value *
          as_aux_lemma =>
          have h12 : nk ≤ 12 := by have := hr.len; omega
          have EF : Hid (s = seqSp xs (spA xs j) x) := by show _ = _; rw [HSP.out]; unfold spanP; rw [if_neg (by omega), if_neg (by omega), if_neg (by omega), if_neg (by omega), if_neg (by omega), if_pos hk]
          have HR : Hid (Row64 w ak nk x.kids) := hr
          have HLk : Hid (x.kids.length = nk) := hr.len
          have HBH : Hid (∀ k, k < nk → (T : Int) < x.kids.getD k 0 ∧ x.kids.getD k 0 < n) := fun k hkk => by
            have := HB.out T (by omega) k (by rw [← HX.out, hr.len]; exact hkk)
            rw [← HX.out] at this
            exact this
          have HOKJ : Hid (∀ i, (spA xs j i).ok 1000000000000000) := HOK.out j (by have := HJ.out; omega)
          obtain ⟨ex, hex⟩ : ∃ ex, ex = x.ext := ⟨_, rfl⟩
          rw [← hex] at d3
          have ST : Hid (s = x.kids.foldl (seqStep xs (spA xs j)) ⟨(flagSp ex).f, (flagSp ex).m, ex⟩) := by show _ = _; rw [EF.out, hex]; rfl
          have ST2 : Hid (ex = true → s = x.kids.foldl (seqStep xs (spA xs j)) ⟨1, 1, true⟩) := by
            intro h
            rw [ST.out, h, show (flagSp true).f = 1 from wid2, show (flagSp true).m = 1 from wid2]
          have hexc : ex = true ∨ ex = false := by cases ex <;> simp
          rw [hk] at d0
          clear hk hbn hex hr
          rcases hexc with hx1 | hx1
          all_goals subst hx1
          all_goals clear d1 d2 d4
          all_goals go_wp2
          all_goals go_loopw [9, 10, 11] (fun va vb i wq => ∃ (k : Nat) (q : Sp), k ≤ nk ∧ va = .int .i64 q.f ∧ vb = .int .i64 q.hi ∧ i = .int .i64 k ∧ Hid (q.ok (1 + 1000000000000001 * k)) ∧ Hid (s = (x.kids.drop k).foldl (seqStep xs (spA xs j)) q) ∧ W1 = wq) (fun _ _ i _ => nk - (intOf i).toNat)
          case atStart => exact ⟨0, ⟨1, 1, true⟩, Nat.zero_le _, rfl, rfl, rfl, ⟨by decide, by decide, by decide, by decide⟩, (by show _ = _; rw [List.drop_zero]; exact ST2.out (by trivial)), rfl⟩
          case atStart => exact ⟨0, ⟨0, 0, false⟩, Nat.zero_le _, rfl, rfl, rfl, ⟨by decide, by decide, by decide, by decide⟩, (by show _ = _; rw [List.drop_zero]; exact ST.out), rfl⟩
          all_goals (
            obtain ⟨k, q, hk, rfl, rfl, rfl, OKB, HM, rfl⟩ := hrel
            by_cases hkn : k < nk
            · obtain ⟨b2, off2, rfl, hl2, hc2⟩ := HR.out.get k hkn
              have hbh := HBH.out k hkn
              obtain ⟨p, hp⟩ : ∃ p : Nat, (p : Int) = x.kids.getD k 0 := ⟨(x.kids.getD k 0).toNat, by omega⟩
              have NX0 := seq_next xs (spA xs j) x.kids q k p (by rw [HLk.out]; exact hkn) hp
              rw [← hp] at hc2 hbh
              have hpn : p < n := by omega
              have hcr : W1.cell? ⟨b2, off2 + k, none⟩ = some (.int .i64 p) := (FA.out.2.2.cell (p := ⟨b2, off2 + k, none⟩) hl2).trans hc2
              have y1 := FA.out.1.cell p hpn
              have y2 := FA.out.2.1.cell p hpn
              obtain ⟨b3, off3, hab, hl3, ak3, nk3, ck3, hcs3, _, _⟩ := HS.out.get p hpn
              simp only [Option.some.injEq, Addr.mk.injEq, and_true] at hab
              obtain ⟨rfl, rfl⟩ := hab
              obtain ⟨_, _, _, _, z4, _⟩ := hcs3.of (w' := W1) (fun i => FA.out.2.2.cell (p := ⟨b, i, none⟩) hl3)
              have ho := HOKJ.out p
              obtain ⟨e, he⟩ : ∃ e, e = spA xs j p := ⟨_, rfl⟩
              rw [← he] at y1 y2 ho NX0
              obtain ⟨op, hop⟩ : ∃ op, op = (xs.getD p default).opt := ⟨_, rfl⟩
              rw [← hop] at z4 NX0
              have NX : Hid (s = (x.kids.drop (k + 1)).foldl (seqStep xs (spA xs j)) ((q.cat (flagSp op)).cat ⟨if op = true then 0 else e.f, e.m, e.k⟩)) := by show _ = _; rw [HM.out]; exact NX0
              have OKN : Hid (((q.cat (flagSp op)).cat ⟨if op = true then 0 else e.f, e.m, e.k⟩).ok (1 + 1000000000000001 * ((k + 1 : Nat) : Int))) := by
                show Sp.ok _ _
                refine Sp.ok.mono (B := 1 + 1000000000000001 * (k : Int) + 1 + 1000000000000000) (C := 1 + 1000000000000001 * ((k + 1 : Nat) : Int)) (cat_ok (cat_ok (C := 1) OKB.out (flagSp_ok op)) ⟨?_, ?_, ho.2.2.1, ho.2.2.2⟩) (by omega)
                · have := ho.1
                  dsimp only
                  split <;> omega
                · have := ho.2.1
                  dsimp only
                  split <;> omega
              have HI2 : Hid (((q.cat (flagSp op)).cat ⟨if op = true then 0 else e.f, e.m, e.k⟩).hi = plusP (plusP q.hi (flagSp op).hi) e.hi) := by
                show _ = _
                have f1 := (flagSp_ok op).2.2.1
                have q1 := OKB.out.2.2.1
                rw [hi_cat (q.cat (flagSp op)) ⟨if op = true then 0 else e.f, e.m, e.k⟩ (by show 0 ≤ q.m + (flagSp op).m; omega) ho.2.2.1, hi_cat _ _ q1 f1]
                rfl
              have hq1 : 0 ≤ q.f ∧ q.f ≤ 20000000000000000 := by have := OKB.out.1; have := OKB.out.2.1; omega
              have hq2 : -2 ≤ q.hi ∧ q.hi ≤ 20000000000000000 := by unfold Sp.hi; have := OKB.out.2.2.1; have := OKB.out.2.2.2; split <;> omega
              have he1 : 0 ≤ e.f ∧ e.f ≤ 1000000000000000 := ⟨ho.1, ho.2.1⟩
              have he2 : -2 ≤ e.hi ∧ e.hi ≤ 1000000000000000 := by unfold Sp.hi; have := ho.2.2.1; have := ho.2.2.2; split <;> omega
              have p1 : (p : Int) < (n : Int) := by omega
              have p2 : (k : Int) < (nk : Int) := by omega
              have p3 : (0 : Int) ≤ (p : Int) := by omega
              clear hc2 hp hbh he hop hcs3 NX0 HM OKB
              try dsimp only at y1 y2
              obtain ⟨qf, hqf⟩ : ∃ qf, qf = q.f := ⟨_, rfl⟩
              obtain ⟨qh, hqh⟩ : ∃ qh, qh = q.hi := ⟨_, rfl⟩
              obtain ⟨ef, hef⟩ : ∃ ef, ef = e.f := ⟨_, rfl⟩
              obtain ⟨eh, heh⟩ : ∃ eh, eh = e.hi := ⟨_, rfl⟩
              have HQ : Hid (qf = q.f ∧ qh = q.hi ∧ ef = e.f ∧ eh = e.hi) := ⟨hqf, hqh, hef, heh⟩
              rw [← hqf] at hq1 ⊢
              rw [← hqh] at hq2 ⊢
              rw [← hef] at he1 y1
              rw [← heh] at he2 y2
              clear hqf hqh hef heh ho
              cases op with
              | true =>
                have V : Hid (Value.int .i64 (qf + 1) = .int .i64 ((q.cat (flagSp true)).cat ⟨if true = true then 0 else e.f, e.m, e.k⟩).f ∧ Value.int .i64 (plusP (plusP qh 1) eh) = .int .i64 ((q.cat (flagSp true)).cat ⟨if true = true then 0 else e.f, e.m, e.k⟩).hi) := by
                  refine ⟨?_, ?_⟩
                  · show Value.int .i64 (qf + 1) = .int .i64 (q.f + wid 2 + 0)
                    rw [wid2, HQ.out.1, Int.add_zero]
                  · rw [HI2.out, HQ.out.2.1, HQ.out.2.2.2, show (flagSp true).hi = 1 from wid2]
                go_wp2_with fail
                refine (l4Plus_any qh 1 _ (by omega) (by decide) (by omega) (by decide)).mono ?_
                rintro e' w4 ⟨rfl, rfl⟩
                have hu0 : -2 ≤ plusP qh 1 ∧ plusP qh 1 ≤ 30000000000000000 := by unfold plusP; split <;> omega
                obtain ⟨u, hu⟩ : ∃ u, u = plusP qh 1 := ⟨_, rfl⟩
                have HU : Hid (u = plusP qh 1) := hu
                rw [← hu] at hu0 ⊢
                clear hu
                go_wp2_with fail
                refine (l4Plus_any u eh _ (by omega) (by omega) (by omega) (by omega)).mono ?_
                rintro e' w4 ⟨rfl, rfl⟩
                obtain ⟨v, hv⟩ : ∃ v, v = plusP u eh := ⟨_, rfl⟩
                have HV : Hid (v = plusP u eh) := hv
                rw [← hv]
                clear hv
                go_wp2
                go_roundw
                case rel => exact ⟨k + 1, _, by omega, V.out.1, by rw [HV.out, HU.out]; exact V.out.2, by go_num, OKN, NX, by trivial⟩
                case measure => simp [intOf]; omega
              | false =>
                have V : Hid (Value.int .i64 (qf + ef) = .int .i64 ((q.cat (flagSp false)).cat ⟨if false = true then 0 else e.f, e.m, e.k⟩).f ∧ Value.int .i64 (plusP qh eh) = .int .i64 ((q.cat (flagSp false)).cat ⟨if false = true then 0 else e.f, e.m, e.k⟩).hi) := by
                  refine ⟨?_, ?_⟩
                  · show Value.int .i64 (qf + ef) = .int .i64 (q.f + 0 + e.f)
                    rw [HQ.out.1, HQ.out.2.2.1, Int.add_zero]
                  · rw [HI2.out, HQ.out.2.1, HQ.out.2.2.2, show (flagSp false).hi = 0 from rfl, plusP_zero]
                go_wp2_with fail
                refine (l4Plus_any qh eh _ (by omega) (by omega) (by omega) (by omega)).mono ?_
                rintro e' w4 ⟨rfl, rfl⟩
                obtain ⟨v, hv⟩ : ∃ v, v = plusP qh eh := ⟨_, rfl⟩
                have HV : Hid (v = plusP qh eh) := hv
                rw [← hv]
                clear hv
                go_wp2
                go_roundw
                case rel => exact ⟨k + 1, _, by omega, V.out.1, by rw [HV.out]; exact V.out.2, by go_num, OKN, NX, by trivial⟩
                case measure => simp [intOf]; omega
            · obtain rfl : nk = k := by omega
              have HE : Hid (s = q) := by show _ = _; rw [HM.out, List.drop_eq_nil_of_le (by rw [HLk.out]; exact Nat.le_refl _)]; rfl
              have hq1 : 0 ≤ q.f ∧ q.f ≤ 20000000000000000 := by have := OKB.out.1; have := OKB.out.2.1; omega
              go_wp2
              go_meet
              exact ⟨by rw [HE.out], by rw [HE.out], FA.out⟩)
        · clear_value *
          as_aux_lemma =>
          have hb : 0 ≤ x.lo ∧ x.lo ≤ x.hi ∧ x.hi ≤ 200 := by omega
          have EF : Hid (s = rowSp x.lo x.hi (spA xs j (x.kids.getD 0 0).toNat)) := by show _ = _; rw [HSP.out]; unfold spanP; rw [if_neg (by omega), if_neg (by omega), if_neg (by omega), if_neg (by omega), if_neg (by omega), if_neg (by omega), if_pos hk]
          have h1 : 1 ≤ nk := by have := hr.len; omega
          obtain ⟨b2, off2, rfl, hl2, hc2⟩ := hr.get 0 (by omega)
          have hbh := HB.out T (by omega) 0 (by rw [← HX.out, hr.len]; omega)
          rw [← HX.out] at hbh
          obtain ⟨p, hp⟩ : ∃ p : Nat, (p : Int) = x.kids.getD 0 0 := ⟨(x.kids.getD 0 0).toNat, by omega⟩
          rw [← hp] at hc2 hbh
          rw [← hp, Int.toNat_natCast] at EF
          have hpn : p < n := by omega
          have hcr : W1.cell? ⟨b2, off2, none⟩ = some (.int .i64 p) := (FA.out.2.2.cell (p := ⟨b2, off2 + 0, none⟩) hl2).trans hc2
          have y1 := FA.out.1.cell p hpn
          have y2 := FA.out.2.1.cell p hpn
          have ho := HOK.out j (by have := HJ.out; omega) p
          obtain ⟨e, he⟩ : ∃ e, e = spA xs j p := ⟨_, rfl⟩
          rw [← he] at y1 y2 ho EF
          obtain ⟨o1, o2, o3, o4⟩ := ho
          have n1 : 0 ≤ x.lo * e.f := Int.mul_nonneg hb.1 o1
          have n3 : x.lo * e.f ≤ 200 * 1000000000000000 := Int.mul_le_mul (by omega) o2 o1 (by decide)
          have n2 : 0 ≤ x.hi * e.m := Int.mul_nonneg (by omega) o3
          have n4 : x.hi * e.m ≤ 200 * 1000000000000000 := Int.mul_le_mul (by omega) o4 o3 (by decide)
          have hv1 : IntKind.i64.wrap (x.lo * e.f) = x.lo * e.f := by rw [IntKind.wrap_i64]; omega
          have hv2 : IntKind.i64.wrap (wd + x.lo * e.f) = wd + x.lo * e.f := by rw [IntKind.wrap_i64]; omega
          have q1 : (p : Int) < (n : Int) := by omega
          have q2 : (0 : Int) < (nk : Int) := by omega
          have q3 : (0 : Int) ≤ (p : Int) := by omega
          rw [hk] at d0
          clear hk hbn hc2 hp hbh he hr
          have HFA : Hid (∀ wx, Below W1.heap.size W1 wx → ArrM wx w.heap.size n (fun i => (spA xs j i).f) ∧ ArrM wx g2 n (fun i => (spA xs j i).hi) ∧ Below w.heap.size w wx) := fun wx hwx => ⟨FA.out.1.kept (hwx.block _ FA.out.1.lt), FA.out.2.1.kept (hwx.block _ FA.out.2.1.lt), FA.out.2.2.trans (hwx.mono FA.out.2.2.size)⟩
          have SF : Hid (s.f = wd + x.lo * e.f) := by rw [EF.out]; show x.lo * e.f + wid (x.hi - x.lo + 1) = _; rw [← HWD.out]; omega
          have hv3 : IntKind.i64.wrap (x.hi * e.m) = x.hi * e.m := by rw [IntKind.wrap_i64]; omega
          have hv4 : IntKind.i64.wrap (wd + x.hi * e.m) = wd + x.hi * e.m := by rw [IntKind.wrap_i64]; omega
          obtain ⟨ef, em, ek⟩ := e
          dsimp only at y1 o1 o2 o3 o4 n1 n2 n3 n4 hv1 hv2 hv3 hv4 SF
          cases ek with
          | true =>
            have eh : (⟨ef, em, true⟩ : Sp).hi = -2 := rfl
            rw [eh] at y2
            clear eh
            by_cases hpos : x.hi > 0
            · have SH : Hid (s.hi = -2) := by
                rw [EF.out]
                show (if ((true && decide (x.hi > 0)) || false) = true then (-2 : Int) else _) = -2
                rw [decide_eq_true hpos]
                rfl
              go_wp2_with fail
              go_quiet (fail)
              go_wp2
              go_meet
              exact ⟨by rw [SF.out], by rw [SH.out], HFA.out _ (below_drewN (Below.refl _ _) _)⟩
            · have hz : x.hi = 0 := by omega
              have SH : Hid (s.hi = wd) := by
                rw [EF.out]
                show (if ((true && decide (x.hi > 0)) || false) = true then (-2 : Int) else x.hi * em + wid (x.hi - x.lo + 1)) = wd
                rw [decide_eq_false hpos, if_neg (by decide), ← HWD.out, hz]
                omega
              clear hz
              go_wp2_with fail
              go_quiet (fail)
              go_wp2
              go_meet
              exact ⟨by rw [SF.out], by rw [SH.out], HFA.out _ (below_drewN (Below.refl _ _) _)⟩
          | false =>
            have eh : (⟨ef, em, false⟩ : Sp).hi = em := rfl
            rw [eh] at y2
            clear eh
            have z2 : (em == -2) = false := by simp; omega
            have SH : Hid (s.hi = wd + x.hi * em) := by
              rw [EF.out]
              show (if ((false && decide (x.hi > 0)) || false) = true then (-2 : Int) else x.hi * em + wid (x.hi - x.lo + 1)) = _
              rw [Bool.false_and, if_neg (by decide), ← HWD.out]
              omega
            by_cases hpos : x.hi > 0
            · go_wp2_with fail
              go_quiet (fail)
              go_wp2_with fail
              go_quiet (fail)
              go_wp2
              go_meet
              exact ⟨by rw [SF.out], by rw [SH.out], HFA.out _ (by first | exact below_drewN (below_drewN (Below.refl _ _) _) _ | exact below_drewN (Below.refl _ _) _)⟩
            · have SH2 : Hid (s.hi = wd) := by
                have hz : x.hi = 0 := by omega
                show s.hi = wd
                rw [SH.out, hz, Int.zero_mul, Int.add_zero]
              go_wp2_with fail
              go_quiet (fail)
              go_wp2
              go_meet
              exact ⟨by rw [SF.out], by rw [SH2.out], HFA.out _ (below_drewN (Below.refl _ _) _)⟩
        · clear_value *
          as_aux_lemma =>
          have h12 : 1 ≤ nk ∧ nk ≤ 12 := by have := hr.len; omega
          have EF : Hid (s = choiceSp (spA xs j) x) := by show _ = _; rw [HSP.out]; unfold spanP; rw [if_neg (by omega), if_neg (by omega), if_neg (by omega), if_neg (by omega), if_neg (by omega), if_neg (by omega), if_neg (by omega), if_pos hk]
          have HR : Hid (Row64 w ak nk x.kids) := hr
          have HLk : Hid (x.kids.length = nk) := hr.len
          have HBH : Hid (∀ k, k < nk → (T : Int) < x.kids.getD k 0 ∧ x.kids.getD k 0 < n) := fun k hkk => by
            have := HB.out T (by omega) k (by rw [← HX.out, hr.len]; exact hkk)
            rw [← HX.out] at this
            exact this
          have HOKJ : Hid (∀ i, (spA xs j i).ok 1000000000000000) := HOK.out j (by have := HJ.out; omega)
          obtain ⟨b2, off2, rfl, hl2, hc2⟩ := hr.get 0 (by omega)
          have hbh := HBH.out 0 (by omega)
          obtain ⟨p, hp⟩ : ∃ p : Nat, (p : Int) = x.kids.getD 0 0 := ⟨(x.kids.getD 0 0).toNat, by omega⟩
          obtain ⟨P, hP⟩ : ∃ P, P = pickSp (spA xs j) x.kids := ⟨_, rfl⟩
          have HPD : Hid (P = pickSp (spA xs j) x.kids) := hP
          have hPo : P.ok 1000000000000000 := by rw [hP]; exact pickSp_ok _ HOKJ.out _
          have ho := HOKJ.out p
          have ST : Hid (P = x.kids.foldl (pickStep (spA xs j)) ⟨(spA xs j p).f, 0, false⟩) := by show _ = _; rw [hP]; exact (pick_start _ _ p (by rw [HLk.out]; omega) hp ho.2.2.1).symm
          rw [← hp] at hc2 hbh
          have hpn : p < n := by omega
          have hcr : W1.cell? ⟨b2, off2, none⟩ = some (.int .i64 p) := (FA.out.2.2.cell (p := ⟨b2, off2 + 0, none⟩) hl2).trans hc2
          have y1 := FA.out.1.cell p hpn
          have q1 : (p : Int) < (n : Int) := by omega
          have q2 : (0 : Int) < (nk : Int) := by omega
          have q3 : (0 : Int) ≤ (p : Int) := by omega
          have hpf0 : 0 ≤ (spA xs j p).f ∧ (spA xs j p).f ≤ 1000000000000000 := ⟨ho.1, ho.2.1⟩
          obtain ⟨pf, hpf⟩ : ∃ pf, pf = (spA xs j p).f := ⟨_, rfl⟩
          try dsimp only at y1
          rw [← hpf] at y1 ST hpf0
          have HPO : Hid (P.ok 1000000000000000) := hPo
          rw [hk] at d0
          clear hk hbn hr hP hc2 hp hbh ho hpf hPo
          clear d1 d2 d4
          go_wp2
          go_loopw [9, 10, 13] (fun va vb i wq => ∃ (k : Nat) (q : Sp), k ≤ nk ∧ va = .int .i64 q.f ∧ vb = .int .i64 q.hi ∧ i = .int .i64 k ∧ Hid (q.ok 1000000000000000) ∧ Hid (P = (x.kids.drop k).foldl (pickStep (spA xs j)) q) ∧ W1 = wq) (fun _ _ i _ => nk - (intOf i).toNat)
          case atStart => exact ⟨0, ⟨pf, 0, false⟩, Nat.zero_le _, rfl, rfl, rfl, ⟨hpf0.1, hpf0.2, by show (0 : Int) ≤ 0; decide, by show (0 : Int) ≤ _; decide⟩, (by show _ = _; rw [List.drop_zero]; exact ST.out), rfl⟩
          case round =>
            obtain ⟨k, q, hk, rfl, rfl, rfl, OKB, HM, rfl⟩ := hrel
            clear hcr y1 q1 q3 hpf0
            by_cases hkn : k < nk
            · obtain ⟨b3, off3, hab, hl3, hc3⟩ := HR.out.get k hkn
              simp only [Option.some.injEq, Addr.mk.injEq, and_true] at hab
              obtain ⟨rfl, rfl⟩ := hab
              have hbh := HBH.out k hkn
              obtain ⟨r, hr⟩ : ∃ r : Nat, (r : Int) = x.kids.getD k 0 := ⟨(x.kids.getD k 0).toNat, by omega⟩
              have NX0 := pick_next (spA xs j) x.kids q k r (by rw [HLk.out]; exact hkn) hr
              rw [← hr] at hc3 hbh
              have hrn : r < n := by omega
              have hcr : W1.cell? ⟨b2, off2 + k, none⟩ = some (.int .i64 r) := (FA.out.2.2.cell (p := ⟨b2, off2 + k, none⟩) hl3).trans hc3
              have y1 := FA.out.1.cell r hrn
              have y2 := FA.out.2.1.cell r hrn
              have ho := HOKJ.out r
              obtain ⟨e, he⟩ : ∃ e, e = spA xs j r := ⟨_, rfl⟩
              try dsimp only at y1 y2
              rw [← he] at y1 y2 ho NX0
              obtain ⟨qf, qm, qk⟩ := q
              obtain ⟨ef, em, ek⟩ := e
              have NX : Hid (P = (x.kids.drop (k + 1)).foldl (pickStep (spA xs j)) ⟨min qf ef, max qm em, qk || ek⟩) := by show _ = _; rw [HM.out]; exact NX0
              obtain ⟨e1, e2, e3, e4⟩ := ho
              obtain ⟨o1, o2, o3, o4⟩ := OKB.out
              dsimp only at y1 e1 e2 e3 e4 o1 o2 o3 o4 ⊢
              have OKN : Hid ((⟨min qf ef, max qm em, qk || ek⟩ : Sp).ok 1000000000000000) := ⟨by show 0 ≤ min qf ef; omega, by show min qf ef ≤ _; omega, by show 0 ≤ max qm em; omega, by show max qm em ≤ _; omega⟩
              have MN : Hid ((if ef < qf then ef else qf) = min qf ef) := by show _ = _; split <;> omega
              have MX : Hid ((if qm < em then em else qm) = max qm em) := by show _ = _; split <;> omega
              have p1 : (r : Int) < (n : Int) := by omega
              have p2 : (k : Int) < (nk : Int) := by omega
              have p3 : (0 : Int) ≤ (r : Int) := by omega
              clear hc3 hr hbh he NX0 HM OKB
              have hcs : ek = true ∨ (ek = false ∧ qk = true) ∨ (ek = false ∧ qk = false) := by cases ek <;> cases qk <;> simp
              rcases hcs with h | ⟨h, h2⟩ | ⟨h, h2⟩
              · subst h
                have hor : (qk || true) = true := by cases qk <;> rfl
                rw [hor] at NX OKN
                rw [show (⟨ef, em, true⟩ : Sp).hi = -2 from rfl] at y2
                obtain ⟨qh, hqh⟩ : ∃ qh, qh = (⟨qf, qm, qk⟩ : Sp).hi := ⟨_, rfl⟩
                rw [← hqh]
                clear hqh
                go_wp2
                go_roundw
                case rel => exact ⟨k + 1, ⟨min qf ef, max qm em, true⟩, by omega, congrArg (Value.int .i64) MN.out, rfl, by go_num, OKN, NX, by trivial⟩
                case measure => simp [intOf]; omega
              · subst h h2
                rw [show (⟨ef, em, false⟩ : Sp).hi = em from rfl] at y2
                rw [show (⟨qf, qm, true⟩ : Sp).hi = -2 from rfl]
                have z1 : (em == -2) = false := by simp; omega
                go_wp2
                go_roundw
                case rel => exact ⟨k + 1, ⟨min qf ef, max qm em, true⟩, by omega, congrArg (Value.int .i64) MN.out, rfl, by go_num, OKN, NX, by trivial⟩
                case measure => simp [intOf]; omega
              · subst h h2
                rw [show (⟨ef, em, false⟩ : Sp).hi = em from rfl] at y2
                rw [show (⟨qf, qm, false⟩ : Sp).hi = qm from rfl]
                have z1 : (em == -2) = false := by simp; omega
                have z2 : (qm == -2) = false := by simp; omega
                go_wp2
                go_roundw
                case rel => exact ⟨k + 1, ⟨min qf ef, max qm em, false⟩, by omega, congrArg (Value.int .i64) MN.out, congrArg (Value.int .i64) MX.out, by go_num, OKN, NX, by trivial⟩
                case measure => simp [intOf]; omega
            · obtain rfl : nk = k := by omega
              have HE : P = q := by rw [HM.out, List.drop_eq_nil_of_le (by rw [HLk.out]; exact Nat.le_refl _)]; rfl
              clear HM OKB
              subst HE
              have hP1 : 0 ≤ P.f ∧ P.f ≤ 1000000000000000 := ⟨HPO.out.1, HPO.out.2.1⟩
              have hP2 : -2 ≤ P.hi ∧ P.hi ≤ 1000000000000000 := by unfold Sp.hi; have := HPO.out.2.2.1; have := HPO.out.2.2.2; split <;> omega
              obtain ⟨Pf, hPf⟩ : ∃ Pf, Pf = P.f := ⟨_, rfl⟩
              obtain ⟨Ph, hPh⟩ : ∃ Ph, Ph = P.hi := ⟨_, rfl⟩
              rw [← hPf] at hP1 ⊢
              rw [← hPh] at hP2 ⊢
              have HPF : Hid (Pf = P.f ∧ Ph = P.hi) := ⟨hPf, hPh⟩
              clear hPf hPh
              obtain ⟨ex, hex⟩ : ∃ ex, ex = x.ext := ⟨_, rfl⟩
              rw [← hex] at d3
              have EF2 : Hid (s = ((P.cat (numSp nk)).orKept ex).cat (flagSp ex)) := by show _ = _; rw [EF.out, hex, HPD.out, ← HLk.out]; rfl
              clear hex
              have hd0 := wid_nonneg (nk : Int)
              have hd4 := wid_le (nk : Int) 4 (by omega)
              obtain ⟨hd, hhd⟩ : ∃ hd, hd = wid (nk : Int) := ⟨_, rfl⟩
              have HHD : Hid (hd = wid (nk : Int)) := hhd
              rw [← hhd] at hd0 hd4
              have SF : Hid (ex = false → s.f = Pf + hd ∧ s.hi = plusP Ph hd) := by
                intro h
                rw [EF2.out, h, HPF.out.1, HPF.out.2, HHD.out]
                refine ⟨by show P.f + wid nk + 0 = _; omega, ?_⟩
                rw [show (((P.cat (numSp nk)).orKept false).cat (flagSp false)).hi = ((P.cat (numSp nk)).cat (flagSp false)).hi from rfl, hi_cat _ _ (by show 0 ≤ P.m + wid nk; have := HPO.out.2.2.1; omega) (by decide), show (flagSp false).hi = 0 from rfl, plusP_zero, hi_cat _ _ HPO.out.2.2.1 (wid_nonneg _)]
                rfl
              have SG : Hid (ex = true → s.f = (if 32 < Pf + hd + 1 then 32 else Pf + hd + 1) ∧ s.hi = -2) := by
                intro h
                rw [EF2.out, h, HPF.out.1, HHD.out]
                refine ⟨?_, rfl⟩
                show min (P.f + wid nk) 31 + wid 2 = _
                rw [wid2]
                split <;> omega
              go_wp2_with fail
              refine (l4Width_any nk _ (by omega)).mono ?_
              rintro e w4 ⟨rfl, rfl⟩
              rw [← hhd]
              clear hhd
              go_wp2_with fail
              refine (l4Plus_any Ph hd _ (by omega) (by omega) (by omega) (by omega)).mono ?_
              rintro e w4 ⟨rfl, rfl⟩
              obtain ⟨u, hu⟩ : ∃ u, u = plusP Ph hd := ⟨_, rfl⟩
              have HU : Hid (u = plusP Ph hd) := hu
              rw [← hu]
              clear hu
              cases ex with
              | false =>
                go_wp2
                go_meet
                exact ⟨by rw [(SF.out (by trivial)).1], by rw [HU.out, (SF.out (by trivial)).2], FA.out⟩
              | true =>
                go_wp2_with fail
                refine (l4Width_any 20001 _ (by decide)).mono ?_
                rintro e w4 ⟨rfl, rfl⟩
                rw [widB]
                go_wp2
                all_goals
                  go_meet
                  exact ⟨by rw [(SG.out (by trivial)).1]; congr 1; split <;> omega, by rw [(SG.out (by trivial)).2], FA.out⟩
        · clear_value *
          as_aux_lemma =>
          have h12 : 1 ≤ nk ∧ nk ≤ 12 := by have := hr.len; omega
          have EF : Hid (s = (pickSp (spA xs j) x.kids).orKept x.ext) := by show _ = _; rw [HSP.out]; unfold spanP; rw [if_neg (by omega), if_neg (by omega), if_neg (by omega), if_neg (by omega), if_neg (by omega), if_neg (by omega), if_neg (by omega), if_neg (by omega)]
          have HR : Hid (Row64 w ak nk x.kids) := hr
          have HLk : Hid (x.kids.length = nk) := hr.len
          have HBH : Hid (∀ k, k < nk → (T : Int) < x.kids.getD k 0 ∧ x.kids.getD k 0 < n) := fun k hkk => by
            have := HB.out T (by omega) k (by rw [← HX.out, hr.len]; exact hkk)
            rw [← HX.out] at this
            exact this
          have HOKJ : Hid (∀ i, (spA xs j i).ok 1000000000000000) := HOK.out j (by have := HJ.out; omega)
          obtain ⟨b2, off2, rfl, hl2, hc2⟩ := hr.get 0 (by omega)
          have hbh := HBH.out 0 (by omega)
          obtain ⟨p, hp⟩ : ∃ p : Nat, (p : Int) = x.kids.getD 0 0 := ⟨(x.kids.getD 0 0).toNat, by omega⟩
          obtain ⟨P, hP⟩ : ∃ P, P = pickSp (spA xs j) x.kids := ⟨_, rfl⟩
          have HPD : Hid (P = pickSp (spA xs j) x.kids) := hP
          have hPo : P.ok 1000000000000000 := by rw [hP]; exact pickSp_ok _ HOKJ.out _
          have ho := HOKJ.out p
          have ST : Hid (P = x.kids.foldl (pickStep (spA xs j)) ⟨(spA xs j p).f, 0, false⟩) := by show _ = _; rw [hP]; exact (pick_start _ _ p (by rw [HLk.out]; omega) hp ho.2.2.1).symm
          rw [← hp] at hc2 hbh
          have hpn : p < n := by omega
          have hcr : W1.cell? ⟨b2, off2, none⟩ = some (.int .i64 p) := (FA.out.2.2.cell (p := ⟨b2, off2 + 0, none⟩) hl2).trans hc2
          have y1 := FA.out.1.cell p hpn
          have q1 : (p : Int) < (n : Int) := by omega
          have q2 : (0 : Int) < (nk : Int) := by omega
          have q3 : (0 : Int) ≤ (p : Int) := by omega
          have hpf0 : 0 ≤ (spA xs j p).f ∧ (spA xs j p).f ≤ 1000000000000000 := ⟨ho.1, ho.2.1⟩
          obtain ⟨pf, hpf⟩ : ∃ pf, pf = (spA xs j p).f := ⟨_, rfl⟩
          try dsimp only at y1
          rw [← hpf] at y1 ST hpf0
          have HPO : Hid (P.ok 1000000000000000) := hPo
          rw [hk] at d0
          clear hk hbn hr hP hc2 hp hbh ho hpf hPo
          clear d1 d2 d4
          go_wp2
          go_loopw [9, 10, 13] (fun va vb i wq => ∃ (k : Nat) (q : Sp), k ≤ nk ∧ va = .int .i64 q.f ∧ vb = .int .i64 q.hi ∧ i = .int .i64 k ∧ Hid (q.ok 1000000000000000) ∧ Hid (P = (x.kids.drop k).foldl (pickStep (spA xs j)) q) ∧ W1 = wq) (fun _ _ i _ => nk - (intOf i).toNat)
          case atStart => exact ⟨0, ⟨pf, 0, false⟩, Nat.zero_le _, rfl, rfl, rfl, ⟨hpf0.1, hpf0.2, by show (0 : Int) ≤ 0; decide, by show (0 : Int) ≤ _; decide⟩, (by show _ = _; rw [List.drop_zero]; exact ST.out), rfl⟩
          case round =>
            obtain ⟨k, q, hk, rfl, rfl, rfl, OKB, HM, rfl⟩ := hrel
            clear hcr y1 q1 q3 hpf0
            by_cases hkn : k < nk
            · obtain ⟨b3, off3, hab, hl3, hc3⟩ := HR.out.get k hkn
              simp only [Option.some.injEq, Addr.mk.injEq, and_true] at hab
              obtain ⟨rfl, rfl⟩ := hab
              have hbh := HBH.out k hkn
              obtain ⟨r, hr⟩ : ∃ r : Nat, (r : Int) = x.kids.getD k 0 := ⟨(x.kids.getD k 0).toNat, by omega⟩
              have NX0 := pick_next (spA xs j) x.kids q k r (by rw [HLk.out]; exact hkn) hr
              rw [← hr] at hc3 hbh
              have hrn : r < n := by omega
              have hcr : W1.cell? ⟨b2, off2 + k, none⟩ = some (.int .i64 r) := (FA.out.2.2.cell (p := ⟨b2, off2 + k, none⟩) hl3).trans hc3
              have y1 := FA.out.1.cell r hrn
              have y2 := FA.out.2.1.cell r hrn
              have ho := HOKJ.out r
              obtain ⟨e, he⟩ : ∃ e, e = spA xs j r := ⟨_, rfl⟩
              try dsimp only at y1 y2
              rw [← he] at y1 y2 ho NX0
              obtain ⟨qf, qm, qk⟩ := q
              obtain ⟨ef, em, ek⟩ := e
              have NX : Hid (P = (x.kids.drop (k + 1)).foldl (pickStep (spA xs j)) ⟨min qf ef, max qm em, qk || ek⟩) := by show _ = _; rw [HM.out]; exact NX0
              obtain ⟨e1, e2, e3, e4⟩ := ho
              obtain ⟨o1, o2, o3, o4⟩ := OKB.out
              dsimp only at y1 e1 e2 e3 e4 o1 o2 o3 o4 ⊢
              have OKN : Hid ((⟨min qf ef, max qm em, qk || ek⟩ : Sp).ok 1000000000000000) := ⟨by show 0 ≤ min qf ef; omega, by show min qf ef ≤ _; omega, by show 0 ≤ max qm em; omega, by show max qm em ≤ _; omega⟩
              have MN : Hid ((if ef < qf then ef else qf) = min qf ef) := by show _ = _; split <;> omega
              have MX : Hid ((if qm < em then em else qm) = max qm em) := by show _ = _; split <;> omega
              have p1 : (r : Int) < (n : Int) := by omega
              have p2 : (k : Int) < (nk : Int) := by omega
              have p3 : (0 : Int) ≤ (r : Int) := by omega
              clear hc3 hr hbh he NX0 HM OKB
              have hcs : ek = true ∨ (ek = false ∧ qk = true) ∨ (ek = false ∧ qk = false) := by cases ek <;> cases qk <;> simp
              rcases hcs with h | ⟨h, h2⟩ | ⟨h, h2⟩
              · subst h
                have hor : (qk || true) = true := by cases qk <;> rfl
                rw [hor] at NX OKN
                rw [show (⟨ef, em, true⟩ : Sp).hi = -2 from rfl] at y2
                obtain ⟨qh, hqh⟩ : ∃ qh, qh = (⟨qf, qm, qk⟩ : Sp).hi := ⟨_, rfl⟩
                rw [← hqh]
                clear hqh
                go_wp2
                go_roundw
                case rel => exact ⟨k + 1, ⟨min qf ef, max qm em, true⟩, by omega, congrArg (Value.int .i64) MN.out, rfl, by go_num, OKN, NX, by trivial⟩
                case measure => simp [intOf]; omega
              · subst h h2
                rw [show (⟨ef, em, false⟩ : Sp).hi = em from rfl] at y2
                rw [show (⟨qf, qm, true⟩ : Sp).hi = -2 from rfl]
                have z1 : (em == -2) = false := by simp; omega
                go_wp2
                go_roundw
                case rel => exact ⟨k + 1, ⟨min qf ef, max qm em, true⟩, by omega, congrArg (Value.int .i64) MN.out, rfl, by go_num, OKN, NX, by trivial⟩
                case measure => simp [intOf]; omega
              · subst h h2
                rw [show (⟨ef, em, false⟩ : Sp).hi = em from rfl] at y2
                rw [show (⟨qf, qm, false⟩ : Sp).hi = qm from rfl]
                have z1 : (em == -2) = false := by simp; omega
                have z2 : (qm == -2) = false := by simp; omega
                go_wp2
                go_roundw
                case rel => exact ⟨k + 1, ⟨min qf ef, max qm em, false⟩, by omega, congrArg (Value.int .i64) MN.out, congrArg (Value.int .i64) MX.out, by go_num, OKN, NX, by trivial⟩
                case measure => simp [intOf]; omega
            · obtain rfl : nk = k := by omega
              have HE : P = q := by rw [HM.out, List.drop_eq_nil_of_le (by rw [HLk.out]; exact Nat.le_refl _)]; rfl
              clear HM OKB
              subst HE
              have hP1 : 0 ≤ P.f ∧ P.f ≤ 1000000000000000 := ⟨HPO.out.1, HPO.out.2.1⟩
              have hP2 : -2 ≤ P.hi ∧ P.hi ≤ 1000000000000000 := by unfold Sp.hi; have := HPO.out.2.2.1; have := HPO.out.2.2.2; split <;> omega
              obtain ⟨Pf, hPf⟩ : ∃ Pf, Pf = P.f := ⟨_, rfl⟩
              obtain ⟨Ph, hPh⟩ : ∃ Ph, Ph = P.hi := ⟨_, rfl⟩
              rw [← hPf] at hP1 ⊢
              rw [← hPh] at hP2 ⊢
              have HPF : Hid (Pf = P.f ∧ Ph = P.hi) := ⟨hPf, hPh⟩
              clear hPf hPh
              obtain ⟨ex, hex⟩ : ∃ ex, ex = x.ext := ⟨_, rfl⟩
              rw [← hex] at d3
              have EF2 : Hid (s = P.orKept ex) := by show _ = _; rw [EF.out, hex, HPD.out]
              clear hex
              have SF : Hid (ex = false → s.f = Pf ∧ s.hi = Ph) := by
                intro h
                rw [EF2.out, h, HPF.out.1, HPF.out.2]
                exact ⟨rfl, rfl⟩
              have SG : Hid (ex = true → s.f = (if 31 < Pf then 31 else Pf) ∧ s.hi = -2) := by
                intro h
                rw [EF2.out, h, HPF.out.1]
                refine ⟨?_, rfl⟩
                show min P.f 31 = _
                split <;> omega
              go_wp2_with fail
              refine (l4Plus_any Ph 0 _ (by omega) (by omega) (by omega) (by omega)).mono ?_
              rintro e w4 ⟨rfl, rfl⟩
              rw [plusP_zero]
              cases ex with
              | false =>
                go_wp2
                go_meet
                exact ⟨by rw [(SF.out (by trivial)).1], by rw [(SF.out (by trivial)).2], FA.out⟩
              | true =>
                go_wp2_with fail
                refine (l4Width_any 20001 _ (by decide)).mono ?_
                rintro e w4 ⟨rfl, rfl⟩
                rw [widB]
                go_wp2
                all_goals
                  go_meet
                  exact ⟨by rw [(SG.out (by trivial)).1]; congr 1; split <;> omega, by rw [(SG.out (by trivial)).2], FA.out⟩
      case rest =>
        obtain ⟨rfl, rfl, a1, a2, hbx⟩ := hcut
        have y1 := a1.cell T (by omega)
        have y2 := a2.cell T (by omega)
        have f1 := a1.frozen T
        have f2 := a2.frozen T
        have o := HSO.out
        have hs1 : 0 ≤ s.f ∧ s.f ≤ 2000000000000000000 := ⟨o.1, o.2.1⟩
        have hs2 : -2 ≤ s.hi ∧ s.hi ≤ 2000000000000000000 := by unfold Sp.hi; have := o.2.2.1; have := o.2.2.2; split <;> omega
        clear o
        have FB : Hid (_ ∧ _ ∧ _) := ⟨a1, a2, hbx⟩
        clear a1 a2 hbx d0 d1 d2 d3 d4 d5
        have e1 : (if 1000000000000000 < s.f then 1000000000000000 else s.f) = (capSp s).f := by show _ = min s.f 1000000000000000; split <;> omega
        have e2 : (if 1000000000000000 < s.hi then 1000000000000000 else s.hi) = (capSp s).hi := by rw [hi_cap]; split <;> omega
        have E12 : Hid (_ ∧ _) := ⟨e1, e2⟩
        clear e1 e2
        have HST : Hid (∀ i, spA xs (n - T) i = if i = T then capSp s else spA xs j i) := fun i => by
          have hj := HJ.out
          rw [show n - T = j + 1 by omega, spA, HL.out, show n - 1 - j = T by omega, HSP.out, HX.out]
        have HA1 : Hid (upd (fun i => (spA xs j i).f) T (capSp s).f = fun i => (spA xs (n - T) i).f) := by
          show _ = _
          funext i
          rw [HST.out i]
          unfold upd
          split <;> rfl
        have HA2 : Hid (upd (fun i => (spA xs j i).hi) T (capSp s).hi = fun i => (spA xs (n - T) i).hi) := by
          show _ = _
          funext i
          rw [HST.out i]
          unfold upd
          split <;> rfl
        go_wp2_with fail
        rw [E12.out.1, E12.out.2]
        go_roundw
        case rel =>
          refine ⟨T, by omega, rfl, ?_, ?_, ?_⟩
          · rw [← HA1.out]
            exact (FB.out.1.set T (capSp s).f).kept (heap_setCell_other _ _ _ _ (by simp; omega))
          · rw [← HA2.out]
            exact (FB.out.2.1.kept (heap_setCell_other _ _ _ _ (by simp; omega))).set T (capSp s).hi
          · exact (FB.out.2.2.setCell (Nat.le_refl _) _).setCell (by simp; omega) _
        case measure => simp [intOf]

end Go.Proofs.Ytglmaoigjnoklaa
