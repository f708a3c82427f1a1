import Derived.Test.YtbfjkmlmnhphoaaDoorAP1
import Derived.Test.YtbfjkmlmnhphoaaDoorCC11
import Derived.Test.YtbfjkmlmnhphoaaDoorGCC7MJ0
set_option linter.unusedVariables false
namespace Go.Proofs.YtbfjkmlmnhphoaaDoor
open Go.RowKit Go.Sort

/-- The list that is made, ahead of its signature's being struck. -/
def apV (x y : CP) : CP := ⟨y.parts, y.num, -1, y.tm, y.next, y.scope, y.ind, apl x.ents y.ents, y.sig⟩
theorem newE_mem (ys : List GP) (x : GP) : newE ys x = x ∨ ∃ j, j < ys.length ∧ newE ys x = ys.getD j default := by
  unfold newE
  cases e : lastK ys (kb x) ys.length with
  | none => exact .inl rfl
  | some j => exact .inr ⟨j, (lastK_lt e).1, rfl⟩
theorem apA_mem (xs ys : List GP) : ∀ k, ∀ z ∈ apA xs ys k, (∃ j, j < k ∧ z = xs.getD j default) ∨ ∃ j, j < ys.length ∧ z = ys.getD j default
  | 0, z, h => by cases h
  | k + 1, z, h => by
    unfold apA at h
    rcases List.mem_append.1 h with h | h
    · rcases apA_mem xs ys k z h with ⟨j, hj, e⟩ | h
      · exact .inl ⟨j, by omega, e⟩
      · exact .inr h
    · split at h
      · cases h
      · rw [List.mem_singleton.1 h]
        rcases newE_mem ys (xs.getD k default) with e | e
        · exact .inl ⟨k, by omega, e⟩
        · exact .inr e
theorem apB_mem (xs ys : List GP) : ∀ k, ∀ z ∈ apB xs ys k, ∃ j, j < k ∧ z = ys.getD j default
  | 0, z, h => by cases h
  | k + 1, z, h => by
    unfold apB at h
    rcases List.mem_append.1 h with h | h
    · obtain ⟨j, hj, e⟩ := apB_mem xs ys k z h
      exact ⟨j, by omega, e⟩
    · split at h
      · cases h
      · exact ⟨k, by omega, by simpa using h⟩
theorem apl_ok {xs ys : List GP} (hx : ∀ k, k < xs.length → GpOk (xs.getD k default)) (hy : ∀ k, k < ys.length → GpOk (ys.getD k default)) (k : Nat) (hk : k < (apl xs ys).length) : GpOk ((apl xs ys).getD k default) := by
  have hm : (apl xs ys).getD k default ∈ apl xs ys := by
    rw [List.getD_eq_getElem?_getD, List.getElem?_eq_getElem hk]
    exact List.getElem_mem hk
  rcases List.mem_append.1 hm with h | h
  · rcases apA_mem _ _ _ _ h with ⟨j, hj, e⟩ | ⟨j, hj, e⟩
    · rw [e]; exact hx j hj
    · rw [e]; exact hy j hj
  · obtain ⟨j, hj, e⟩ := apB_mem _ _ _ _ h
    rw [e]; exact hy j hj
theorem apA_len (xs ys : List GP) : ∀ k, (apA xs ys k).length ≤ k
  | 0 => Nat.le_refl _
  | k + 1 => by
    have := apA_len xs ys k
    unfold apA
    split <;> simp <;> omega
theorem apB_len (xs ys : List GP) : ∀ k, (apB xs ys k).length ≤ k
  | 0 => Nat.le_refl _
  | k + 1 => by
    have := apB_len xs ys k
    unfold apB
    split <;> simp <;> omega
theorem apl_len (xs ys : List GP) : (apl xs ys).length ≤ xs.length + ys.length := by
  have h1 := apA_len xs ys xs.length
  have h2 := apB_len xs ys ys.length
  unfold apl
  rw [List.length_append]
  omega

/-- When there is something to tell. -/
def OkA (x y : CP) : Prop := crlP x ∧ crlP y ∧ x.base = -1 ∧ y.base ≠ -1
theorem OkA.rs {x y : CP} (h : OkA x y) (k : Nat) (hk : k < x.ents.length) : (x.ents.getD k default).rs ≠ 7 := by
  intro e
  rcases (h.1.2.1 k hk).2.2.2.2.2 with q | q
  · have := h.2.2.1; omega
  · have := q.1.2; omega
/-- What is told. -/
def ApR (x y : CP) (m1 : Nat) (z : CP) (m n : Nat) (cd : Int) : Prop :=
  (¬ OkA x y ∧ z = zeroC ∧ m = 0 ∧ n = 0 ∧ cd = 1) ∨ (OkA x y ∧ fitV x y ≠ 0 ∧ z = zeroC ∧ m = 0 ∧ n = 0 ∧ cd = fitV x y) ∨ (OkA x y ∧ fitV x y = 0 ∧ x.num < y.base ∧ z = zeroC ∧ m = 0 ∧ n = 0 ∧ cd = 4) ∨ (OkA x y ∧ fitV x y = 0 ∧ ¬ x.num < y.base ∧ 60 < (apl x.ents y.ents).length ∧ z = zeroC ∧ m = 0 ∧ n = 0 ∧ cd = 5) ∨ (OkA x y ∧ fitV x y = 0 ∧ ¬ x.num < y.base ∧ ¬ 60 < (apl x.ents y.ents).length ∧ z = noSig (apV x y) ∧ m = m1 ∧ n = (apl x.ents y.ents).length ∧ cd = 0)
theorem apR_bad {x y : CP} {m1 : Nat} (h : ¬ OkA x y) {z : CP} {m n : Nat} {cd : Int} (hr : ApR x y m1 z m n cd) : z = zeroC ∧ m = 0 ∧ n = 0 ∧ cd = 1 := by
  rcases hr with q | q | q | q | q
  · exact q.2
  all_goals exact absurd q.1 h
theorem apR_fit {x y : CP} {m1 : Nat} (h : OkA x y) (h2 : fitV x y ≠ 0) {z : CP} {m n : Nat} {cd : Int} (hr : ApR x y m1 z m n cd) : z = zeroC ∧ m = 0 ∧ n = 0 ∧ cd = fitV x y := by
  rcases hr with q | q | q | q | q
  · exact absurd h q.1
  · exact q.2.2
  all_goals exact absurd q.2.1 h2
theorem apR_base {x y : CP} {m1 : Nat} (h : OkA x y) (h2 : fitV x y = 0) (h3 : x.num < y.base) {z : CP} {m n : Nat} {cd : Int} (hr : ApR x y m1 z m n cd) : z = zeroC ∧ m = 0 ∧ n = 0 ∧ cd = 4 := by
  rcases hr with q | q | q | q | q
  · exact absurd h q.1
  · exact absurd h2 q.2.1
  · exact q.2.2.2
  all_goals exact absurd h3 q.2.2.1
theorem apR_full {x y : CP} {m1 : Nat} (h : OkA x y) (h2 : fitV x y = 0) (h3 : ¬ x.num < y.base) (h4 : 60 < (apl x.ents y.ents).length) {z : CP} {m n : Nat} {cd : Int} (hr : ApR x y m1 z m n cd) : z = zeroC ∧ m = 0 ∧ n = 0 ∧ cd = 5 := by
  rcases hr with q | q | q | q | q
  · exact absurd h q.1
  · exact absurd h2 q.2.1
  · exact absurd q.2.2.1 h3
  · exact q.2.2.2.2
  · exact absurd h4 q.2.2.2.1
theorem apR_made {x y : CP} {m1 : Nat} (h : OkA x y) (h2 : fitV x y = 0) (h3 : ¬ x.num < y.base) (h4 : ¬ 60 < (apl x.ents y.ents).length) {z : CP} {m n : Nat} {cd : Int} (hr : ApR x y m1 z m n cd) : z = noSig (apV x y) ∧ m = m1 ∧ n = (apl x.ents y.ents).length ∧ cd = 0 := by
  rcases hr with q | q | q | q | q
  · exact absurd h q.1
  · exact absurd h2 q.2.1
  · exact absurd q.2.2.1 h3
  · exact absurd q.2.2.2.1 h4
  · exact q.2.2.2.2
theorem apR_ex (x y : CP) (m1 : Nat) : ∃ z m n cd, ApR x y m1 z m n cd := by
  by_cases h : OkA x y
  · by_cases h2 : fitV x y = 0
    · by_cases h3 : x.num < y.base
      · exact ⟨_, _, _, _, .inr (.inr (.inl ⟨h, h2, h3, rfl, rfl, rfl, rfl⟩))⟩
      · by_cases h4 : 60 < (apl x.ents y.ents).length
        · exact ⟨_, _, _, _, .inr (.inr (.inr (.inl ⟨h, h2, h3, h4, rfl, rfl, rfl, rfl⟩)))⟩
        · exact ⟨_, _, _, _, .inr (.inr (.inr (.inr ⟨h, h2, h3, h4, rfl, rfl, rfl, rfl⟩)))⟩
    · exact ⟨_, _, _, _, .inr (.inl ⟨h, h2, rfl, rfl, rfl, rfl⟩)⟩
  · exact ⟨_, _, _, _, .inl ⟨h, rfl, rfl, rfl, rfl⟩⟩
def ApI (x y : CP) (m1 : Nat) (w : World) (e : Ending) (w' : World) : Prop := ∀ z m n cd, ApR x y m1 z m n cd → AnsI z m n cd w e w'
def ApS (x y : CP) (m1 : Nat) (w : World) (e : Ending) (w' : World) : Prop := ∀ z m n cd, ApR x y m1 z m n cd → AnsS z m n cd w e w'

set_option maxRecDepth 10000 in
set_option maxHeartbeats 8000000 in
theorem implApplyDelta_any (a1 : Option Addr) (n1 c1 : Nat) (a2 : Option Addr) (n2 c2 : Nat) (a3 : Option Addr) (n3 c3 : Nat) (x : CP) (b1 : Option Addr) (m1 d1 : Nat) (b2 : Option Addr) (m2 d2 : Nat) (b3 : Option Addr) (m3 d3 : Nat) (y : CP) (w : World) (htab : Lib.TabIs Tryd.prog w "internal/strconv.uint64pow10" .u64 Lib.pow10Tab) (h : Crs w a1 n1 a2 n2 a3 n3 x) (h' : Crs w b1 m1 b2 m2 b3 m3 y) (hz : CpOk n1 n2 n3 x) (hz' : CpOk m1 m2 m3 y)
    (hsc : -9223372036854775808 ≤ x.scope ∧ x.scope ≤ 9223372036854775807) (hsc' : -9223372036854775808 ≤ y.scope ∧ y.scope ≤ 9223372036854775807) (hn1 : b1 = none → d1 = 0) (hna : a2 = none → c2 = 0) (hnb : b2 = none → d2 = 0)
    (hc : ∀ k, k < n2 → ∀ b off an nn cn, a2 = some ⟨b, off, none⟩ → w.cell? ⟨b, off + k * 4, none⟩ = some (.slice an nn cn) → (an = none → cn = 0) ∧ nn ≤ 1048576)
    (hc' : ∀ k, k < m2 → ∀ b off an nn cn, b2 = some ⟨b, off, none⟩ → w.cell? ⟨b, off + k * 4, none⟩ = some (.slice an nn cn) → (an = none → cn = 0) ∧ nn ≤ 1048576) :
    Calls Tryd.prog 17 #[crv a1 n1 c1 a2 n2 c2 a3 n3 c3 x, crv b1 m1 d1 b2 m2 d2 b3 m3 d3 y] w fun e w' => ApI x y m1 w e w' := by
  obtain ⟨w1, hw1⟩ : ∃ w1, w1 = ((w.alloc (.cells #[.slice a1 n1 c1, .int .i64 x.num, .int .i64 x.base, .int .i64 x.tm, .int .i64 x.next, .int .i64 x.scope, .bool x.ind, .slice a2 n2 c2, .slice a3 n3 c3] 36)).alloc (.cells #[.slice b1 m1 d1, .int .i64 y.num, .int .i64 y.base, .int .i64 y.tm, .int .i64 y.next, .int .i64 y.scope, .bool y.ind, .slice b2 m2 d2, .slice b3 m3 d3] 36)).alloc (.cells #[.slice none 0 0, .int .i64 0, .int .i64 0, .int .i64 0, .int .i64 0, .int .i64 0, .bool false, .slice none 0 0, .slice none 0 0] 36) := ⟨_, rfl⟩
  have hbb : Below w.heap.size w w1 := by rw [hw1]; exact (((Below.refl _ _).alloc (Nat.le_refl _) _).alloc (by simp) _).alloc (by simp; omega) _
  have hB1 := three_blocks' w (.cells #[.slice a1 n1 c1, .int .i64 x.num, .int .i64 x.base, .int .i64 x.tm, .int .i64 x.next, .int .i64 x.scope, .bool x.ind, .slice a2 n2 c2, .slice a3 n3 c3] 36) (.cells #[.slice b1 m1 d1, .int .i64 y.num, .int .i64 y.base, .int .i64 y.tm, .int .i64 y.next, .int .i64 y.scope, .bool y.ind, .slice b2 m2 d2, .slice b3 m3 d3] 36) (.cells #[.slice none 0 0, .int .i64 0, .int .i64 0, .int .i64 0, .int .i64 0, .int .i64 0, .bool false, .slice none 0 0, .slice none 0 0] 36)
  rw [← hw1] at hB1
  have hs1 : w1.heap.size = w.heap.size + 3 := by rw [hw1]; simp
  have HK : Hid (∀ W, Below w1.heap.size w1 W → W.heap[w.heap.size]? = some (.cells #[.slice a1 n1 c1, .int .i64 x.num, .int .i64 x.base, .int .i64 x.tm, .int .i64 x.next, .int .i64 x.scope, .bool x.ind, .slice a2 n2 c2, .slice a3 n3 c3] 36 (0, 0)) ∧ W.heap[w.heap.size + 1]? = some (.cells #[.slice b1 m1 d1, .int .i64 y.num, .int .i64 y.base, .int .i64 y.tm, .int .i64 y.next, .int .i64 y.scope, .bool y.ind, .slice b2 m2 d2, .slice b3 m3 d3] 36 (0, 0)) ∧ W.heap[w.heap.size + 2]? = some (.cells #[.slice none 0 0, .int .i64 0, .int .i64 0, .int .i64 0, .int .i64 0, .int .i64 0, .bool false, .slice none 0 0, .slice none 0 0] 36 (0, 0))) := fun W hb => ⟨(hb.block _ (by omega)).trans hB1.1, (hb.block _ (by omega)).trans hB1.2.1, (hb.block _ (by omega)).trans hB1.2.2⟩
  have HA : Hid (Crs w a1 n1 a2 n2 a3 n3 x ∧ CpOk n1 n2 n3 x) := ⟨h, hz⟩
  have HB : Hid (Crs w b1 m1 b2 m2 b3 m3 y ∧ CpOk m1 m2 m3 y) := ⟨h', hz'⟩
  have HSC : Hid ((-9223372036854775808 ≤ x.scope ∧ x.scope ≤ 9223372036854775807) ∧ (-9223372036854775808 ≤ y.scope ∧ y.scope ≤ 9223372036854775807)) := ⟨hsc, hsc'⟩
  have HN1 : Hid (b1 = none → d1 = 0) := hn1
  have HNA : Hid ((a2 = none → c2 = 0) ∧ (b2 = none → d2 = 0)) := ⟨hna, hnb⟩
  have HCA : Hid (∀ k, k < n2 → ∀ b off an nn cn, a2 = some ⟨b, off, none⟩ → w.cell? ⟨b, off + k * 4, none⟩ = some (.slice an nn cn) → (an = none → cn = 0) ∧ nn ≤ 1048576) := hc
  have HCB : Hid (∀ k, k < m2 → ∀ b off an nn cn, b2 = some ⟨b, off, none⟩ → w.cell? ⟨b, off + k * 4, none⟩ = some (.slice an nn cn) → (an = none → cn = 0) ∧ nn ≤ 1048576) := hc'
  have HT : Hid (∀ W, Below w.heap.size w W → Lib.TabIs Tryd.prog W "internal/strconv.uint64pow10" .u64 Lib.pow10Tab) := fun W hW => Lib.tabBelow_of_tabIs htab W hW
  have HBW : Hid (Below w.heap.size w w1) := hbb
  have HS1 : Hid (_ = _) := hs1
  have HW : Hid (_ = _) := hw1
  clear hw1 hB1 hbb hs1 h h' hz hz' hsc hsc' hn1 hna hnb hc hc' htab
  have COX : ∀ W, Below w1.heap.size w1 W → _ := fun W hb => implCrlOk_any a1 n1 c1 a2 n2 c2 a3 n3 c3 x W (HT.out W (HBW.out.trans (hb.mono HBW.out.size))) (HA.out.1.kept (HBW.out.trans (hb.mono HBW.out.size))) HA.out.2 HSC.out.1
  have COY : ∀ W, Below w1.heap.size w1 W → _ := fun W hb => implCrlOk_any b1 m1 d1 b2 m2 d2 b3 m3 d3 y W (HT.out W (HBW.out.trans (hb.mono HBW.out.size))) (HB.out.1.kept (HBW.out.trans (hb.mono HBW.out.size))) HB.out.2 HSC.out.2
  have FCX : ∀ W, _ := fun W => isFull_any a1 n1 c1 a2 n2 c2 a3 n3 c3 x W
  have FCY : ∀ W, _ := fun W => isFull_any b1 m1 d1 b2 m2 d2 b3 m3 d3 y W
  have FLW : ∀ W, Below w1.heap.size w1 W → _ := fun W hb => followCode_any a1 n1 c1 a2 n2 c2 a3 n3 c3 x b1 m1 d1 b2 m2 d2 b3 m3 d3 y W (HA.out.1.kept (HBW.out.trans (hb.mono HBW.out.size))).nm (HB.out.1.kept (HBW.out.trans (hb.mono HBW.out.size))).nm HA.out.2.2.1 HB.out.2.2.1
  have CHG : Hid (OkA x y → ∀ W, Below w1.heap.size w1 W → Calls Tryd.prog 56 #[.slice a2 n2 c2, .slice b2 m2 d2] W fun e w' => ∃ p k f, e = .returned (.slice p k f) ∧ (∃ sl, GsO w W.heap.size w' p k f (apl x.ents y.ents) sl) ∧ Below W.heap.size W w') := fun hok W hb => withChanges_any a2 n2 c2 x.ents b2 m2 d2 y.ents w W (HBW.out.trans (hb.mono HBW.out.size)) (HT.out W (HBW.out.trans (hb.mono HBW.out.size))) ⟨HA.out.1.en, HNA.out.1, HCA.out⟩ ⟨HB.out.1.en, HNA.out.2, HCB.out⟩ (by have := hok.1.1.2.2.2.2.2.2.2.1; rw [HA.out.1.en.len] at this; omega) (by have := hok.2.1.1.2.2.2.2.2.2.2.1; rw [HB.out.1.en.len] at this; omega) (fun k hk => ⟨entP_name (hok.1.2.1 k (by rw [HA.out.1.en.len]; exact hk)), entP_wf (hok.1.2.1 k (by rw [HA.out.1.en.len]; exact hk))⟩) (fun k hk => ⟨entP_name (hok.2.1.2.1 k (by rw [HB.out.1.en.len]; exact hk)), entP_wf (hok.2.1.2.1 k (by rw [HB.out.1.en.len]; exact hk))⟩) (fun i k hi hk e => hok.1.2.2 i k (by rw [HA.out.1.en.len]; exact hi) hk ((kb_like (hok.1.2.1 k (by rw [HA.out.1.en.len]; omega)) (hok.1.2.1 i (by rw [HA.out.1.en.len]; exact hi))).1 e)) (fun i k hi hk e => hok.2.1.2.2 i k (by rw [HB.out.1.en.len]; exact hi) hk ((kb_like (hok.2.1.2.1 k (by rw [HB.out.1.en.len]; omega)) (hok.2.1.2.1 i (by rw [HB.out.1.en.len]; exact hi))).1 e)) (fun k hk => OkA.rs hok k (by rw [HA.out.1.en.len]; exact hk))
  unfold crv at COX COY FCX FCY FLW
  have HOX : Hid (_) := COX
  have HOY : Hid (_) := COY
  have HFX : Hid (_) := FCX
  have HFY : Hid (_) := FCY
  have HFL : Hid (_) := FLW
  clear COX COY FCX FCY FLW
  unfold crv
  go_enter Tryd.func17, Tryd.ntmps17
  go_upto_region 1 with fail
  rw [← HW.out]
  clear HW
  go_cut [24] (fun c wx => ∃ bq : Bool, c = .bool bq ∧ Hid ((bq = false ↔ OkA x y) ∧ Below w1.heap.size w1 wx))
  case first =>
    go_wp2_with (refine wpList_load_row rfl 36 _ rfl (w.heap.size) rfl 36 #[.slice a1 n1 c1, .int .i64 x.num, .int .i64 x.base, .int .i64 x.tm, .int .i64 x.next, .int .i64 x.scope, .bool x.ind, .slice a2 n2 c2, .slice a3 n3 c3] (0, 0) _ (HK.out _ (Below.refl _ _)).1 Tryd.underlying36 rfl infoSizeCrl ?_)
    refine Calls.mono (HOX.out w1 (Below.refl _ _)) ?_
    rintro e w2 ⟨e1, rfl, hp1, hb2⟩
    cases e1 with
    | false =>
      go_wp2_with fail
      go_meet
      exact ⟨true, rfl, ⟨⟨fun e => (by cases e), fun e => absurd (hp1.out.2 e.1) (by decide)⟩, hb2⟩⟩
    | true =>
      have p0 : w2.cell? ⟨w.heap.size + 1, 0, none⟩ = some (.slice b1 m1 d1) := (cell_of_row _ _ 0 _ _ (0, 0) (HK.out _ hb2).2.1).trans rfl
      have p1 : w2.cell? ⟨w.heap.size + 1, 1, none⟩ = some (.int .i64 y.num) := (cell_of_row _ _ 1 _ _ (0, 0) (HK.out _ hb2).2.1).trans rfl
      have p2 : w2.cell? ⟨w.heap.size + 1, 2, none⟩ = some (.int .i64 y.base) := (cell_of_row _ _ 2 _ _ (0, 0) (HK.out _ hb2).2.1).trans rfl
      have p3 : w2.cell? ⟨w.heap.size + 1, 3, none⟩ = some (.int .i64 y.tm) := (cell_of_row _ _ 3 _ _ (0, 0) (HK.out _ hb2).2.1).trans rfl
      have p4 : w2.cell? ⟨w.heap.size + 1, 4, none⟩ = some (.int .i64 y.next) := (cell_of_row _ _ 4 _ _ (0, 0) (HK.out _ hb2).2.1).trans rfl
      have p5 : w2.cell? ⟨w.heap.size + 1, 5, none⟩ = some (.int .i64 y.scope) := (cell_of_row _ _ 5 _ _ (0, 0) (HK.out _ hb2).2.1).trans rfl
      have p6 : w2.cell? ⟨w.heap.size + 1, 6, none⟩ = some (.bool y.ind) := (cell_of_row _ _ 6 _ _ (0, 0) (HK.out _ hb2).2.1).trans rfl
      have p7 : w2.cell? ⟨w.heap.size + 1, 7, none⟩ = some (.slice b2 m2 d2) := (cell_of_row _ _ 7 _ _ (0, 0) (HK.out _ hb2).2.1).trans rfl
      have p8 : w2.cell? ⟨w.heap.size + 1, 8, none⟩ = some (.slice b3 m3 d3) := (cell_of_row _ _ 8 _ _ (0, 0) (HK.out _ hb2).2.1).trans rfl
      go_wp2_with fail
      clear p0 p1 p2 p3 p4 p5 p6 p7 p8
      refine Calls.mono (HOY.out w2 hb2) ?_
      rintro e w3 ⟨e2, rfl, hp2, hb3⟩
      have hb3r := hb2.trans (hb3.mono hb2.size)
      cases e2 with
      | false =>
        go_wp2_with fail
        go_meet
        exact ⟨true, rfl, ⟨⟨fun e => (by cases e), fun e => absurd (hp2.out.2 e.2.1) (by decide)⟩, hb3r⟩⟩
      | true =>
        have p0 : w3.cell? ⟨w.heap.size, 0, none⟩ = some (.slice a1 n1 c1) := (cell_of_row _ _ 0 _ _ (0, 0) (HK.out _ hb3r).1).trans rfl
        have p1 : w3.cell? ⟨w.heap.size, 1, none⟩ = some (.int .i64 x.num) := (cell_of_row _ _ 1 _ _ (0, 0) (HK.out _ hb3r).1).trans rfl
        have p2 : w3.cell? ⟨w.heap.size, 2, none⟩ = some (.int .i64 x.base) := (cell_of_row _ _ 2 _ _ (0, 0) (HK.out _ hb3r).1).trans rfl
        have p3 : w3.cell? ⟨w.heap.size, 3, none⟩ = some (.int .i64 x.tm) := (cell_of_row _ _ 3 _ _ (0, 0) (HK.out _ hb3r).1).trans rfl
        have p4 : w3.cell? ⟨w.heap.size, 4, none⟩ = some (.int .i64 x.next) := (cell_of_row _ _ 4 _ _ (0, 0) (HK.out _ hb3r).1).trans rfl
        have p5 : w3.cell? ⟨w.heap.size, 5, none⟩ = some (.int .i64 x.scope) := (cell_of_row _ _ 5 _ _ (0, 0) (HK.out _ hb3r).1).trans rfl
        have p6 : w3.cell? ⟨w.heap.size, 6, none⟩ = some (.bool x.ind) := (cell_of_row _ _ 6 _ _ (0, 0) (HK.out _ hb3r).1).trans rfl
        have p7 : w3.cell? ⟨w.heap.size, 7, none⟩ = some (.slice a2 n2 c2) := (cell_of_row _ _ 7 _ _ (0, 0) (HK.out _ hb3r).1).trans rfl
        have p8 : w3.cell? ⟨w.heap.size, 8, none⟩ = some (.slice a3 n3 c3) := (cell_of_row _ _ 8 _ _ (0, 0) (HK.out _ hb3r).1).trans rfl
        go_wp2_with fail
        clear p0 p1 p2 p3 p4 p5 p6 p7 p8
        refine Calls.mono (HFX.out w3) ?_
        rintro e w4 ⟨rfl, hb4⟩
        have hb4r := hb3r.trans (hb4.mono hb3r.size)
        obtain ⟨f1, hf1⟩ : ∃ f1, f1 = (x.base == -1) := ⟨_, rfl⟩
        rw [← hf1]
        have HF1 : Hid (_ = _) := hf1
        clear hf1
        cases f1 with
        | false =>
          go_wp2_with fail
          go_meet
          exact ⟨true, rfl, ⟨⟨fun e => (by cases e), fun e => (by have q := HF1.out; rw [e.2.2.1] at q; exact absurd q (by decide))⟩, hb4r⟩⟩
        | true =>
          have p0 : w4.cell? ⟨w.heap.size + 1, 0, none⟩ = some (.slice b1 m1 d1) := (cell_of_row _ _ 0 _ _ (0, 0) (HK.out _ hb4r).2.1).trans rfl
          have p1 : w4.cell? ⟨w.heap.size + 1, 1, none⟩ = some (.int .i64 y.num) := (cell_of_row _ _ 1 _ _ (0, 0) (HK.out _ hb4r).2.1).trans rfl
          have p2 : w4.cell? ⟨w.heap.size + 1, 2, none⟩ = some (.int .i64 y.base) := (cell_of_row _ _ 2 _ _ (0, 0) (HK.out _ hb4r).2.1).trans rfl
          have p3 : w4.cell? ⟨w.heap.size + 1, 3, none⟩ = some (.int .i64 y.tm) := (cell_of_row _ _ 3 _ _ (0, 0) (HK.out _ hb4r).2.1).trans rfl
          have p4 : w4.cell? ⟨w.heap.size + 1, 4, none⟩ = some (.int .i64 y.next) := (cell_of_row _ _ 4 _ _ (0, 0) (HK.out _ hb4r).2.1).trans rfl
          have p5 : w4.cell? ⟨w.heap.size + 1, 5, none⟩ = some (.int .i64 y.scope) := (cell_of_row _ _ 5 _ _ (0, 0) (HK.out _ hb4r).2.1).trans rfl
          have p6 : w4.cell? ⟨w.heap.size + 1, 6, none⟩ = some (.bool y.ind) := (cell_of_row _ _ 6 _ _ (0, 0) (HK.out _ hb4r).2.1).trans rfl
          have p7 : w4.cell? ⟨w.heap.size + 1, 7, none⟩ = some (.slice b2 m2 d2) := (cell_of_row _ _ 7 _ _ (0, 0) (HK.out _ hb4r).2.1).trans rfl
          have p8 : w4.cell? ⟨w.heap.size + 1, 8, none⟩ = some (.slice b3 m3 d3) := (cell_of_row _ _ 8 _ _ (0, 0) (HK.out _ hb4r).2.1).trans rfl
          go_wp2_with fail
          clear p0 p1 p2 p3 p4 p5 p6 p7 p8
          refine Calls.mono (HFY.out w4) ?_
          rintro e w5 ⟨rfl, hb5⟩
          have hb5r := hb4r.trans (hb5.mono hb4r.size)
          obtain ⟨f2, hf2⟩ : ∃ f2, f2 = (y.base == -1) := ⟨_, rfl⟩
          rw [← hf2]
          have HF2 : Hid (_ = _) := hf2
          clear hf2
          cases f2 with
          | true =>
            go_wp2_with fail
            go_meet
            exact ⟨true, rfl, ⟨⟨fun e => (by cases e), fun e => (by have q := HF2.out; exact absurd (by simpa using q.symm) e.2.2.2)⟩, hb5r⟩⟩
          | false =>
            go_wp2_with fail
            go_meet
            exact ⟨false, rfl, ⟨⟨fun _ => ⟨hp1.out.1 (by first | exact trivial | rfl), hp2.out.1 (by first | exact trivial | rfl), by simpa using HF1.out.symm, by simpa using HF2.out.symm⟩, fun _ => rfl⟩, hb5r⟩⟩
  case rest =>
  obtain ⟨bq, rfl, hbq⟩ := hcut
  cases bq with
  | true =>
    have HNO : Hid (¬ OkA x y) := fun e => absurd (hbq.out.1.2 e) (by decide)
    have HBX : Hid (Below w1.heap.size w1 wc) := hbq.out.2
    clear hbq
    go_wp2_with (refine wpList_store_rowTo rfl 36 _ _ rfl rfl (w.heap.size + 2) #[.slice none 0 0, .int .i64 0, .int .i64 0, .int .i64 0, .int .i64 0, .int .i64 0, .bool false, .slice none 0 0, .slice none 0 0] rfl rfl 36 #[.slice none 0 0, .int .i64 0, .int .i64 0, .int .i64 0, .int .i64 0, .int .i64 0, .bool false, .slice none 0 0, .slice none 0 0] (HK.out _ HBX.out).2.2 infoSizeCrl rfl (by simp [Value.oneCell']) ?_)
    have q6 := setRow_heap wc (w.heap.size + 2) _ #[.slice none 0 0, .int .i64 0, .int .i64 0, .int .i64 0, .int .i64 0, .int .i64 0, .bool false, .slice none 0 0, .slice none 0 0] 36 (0, 0) (HK.out _ HBX.out).2.2
    have tt := setRow_touch wc (w.heap.size + 2) #[.slice none 0 0, .int .i64 0, .int .i64 0, .int .i64 0, .int .i64 0, .int .i64 0, .bool false, .slice none 0 0, .slice none 0 0]
    try simp only [Exit.inBlock, Exit.then]
    have B3 := HBW.out.trans (HBX.out.mono HBW.out.size)
    exact bodyPost_ret (results_crl2 (by rfl) _ (w.heap.size + 2) rfl _ _ rfl q6) rfl (fun z m n cd hr => by obtain ⟨rfl, rfl, rfl, rfl⟩ := apR_bad HNO.out hr; exact ansI_zero (B3.trans (tt.below (by omega) B3.size)))
  | false =>
    have HOK : Hid (OkA x y) := hbq.out.1.1 rfl
    have HBX : Hid (Below w1.heap.size w1 wc) := hbq.out.2
    clear hbq
    go_wp2_with (first | (refine wpList_load_row rfl 36 _ rfl (w.heap.size) rfl 36 #[.slice a1 n1 c1, .int .i64 x.num, .int .i64 x.base, .int .i64 x.tm, .int .i64 x.next, .int .i64 x.scope, .bool x.ind, .slice a2 n2 c2, .slice a3 n3 c3] (0, 0) _ (HK.out _ HBX.out).1 Tryd.underlying36 rfl infoSizeCrl ?_) | (refine wpList_load_row rfl 36 _ rfl (w.heap.size + 1) rfl 36 #[.slice b1 m1 d1, .int .i64 y.num, .int .i64 y.base, .int .i64 y.tm, .int .i64 y.next, .int .i64 y.scope, .bool y.ind, .slice b2 m2 d2, .slice b3 m3 d3] (0, 0) _ (HK.out _ HBX.out).2.1 Tryd.underlying36 rfl infoSizeCrl ?_))
    refine Calls.mono (HFL.out wc HBX.out) ?_
    rintro e w6 ⟨rfl, hb6⟩
    have HB6 : Hid (Below w1.heap.size w1 w6) := HBX.out.trans (hb6.mono HBX.out.size)
    clear hb6
    by_cases hf : fitV x y = 0
    · have HF0 : Hid (fitV x y = 0) := hf
      have HCH : Hid (_) := CHG.out HOK.out
      rw [hf]
      clear hf
      have y2 : w6.cell? ⟨w.heap.size + 1, 2, none⟩ = some (.int .i64 y.base) := (cell_of_row _ _ 2 _ _ (0, 0) (HK.out _ HB6.out).2.1).trans rfl
      have x1 : w6.cell? ⟨w.heap.size, 1, none⟩ = some (.int .i64 x.num) := (cell_of_row _ _ 1 _ _ (0, 0) (HK.out _ HB6.out).1).trans rfl
      by_cases hbase : x.num < y.base
      · have H4 : Hid (x.num < y.base) := hbase
        have t4 : decide (x.num < y.base) = true := by simpa using hbase
        go_wp2_with (refine wpList_store_rowTo rfl 36 _ _ rfl rfl (w.heap.size + 2) #[.slice none 0 0, .int .i64 0, .int .i64 0, .int .i64 0, .int .i64 0, .int .i64 0, .bool false, .slice none 0 0, .slice none 0 0] rfl rfl 36 #[.slice none 0 0, .int .i64 0, .int .i64 0, .int .i64 0, .int .i64 0, .int .i64 0, .bool false, .slice none 0 0, .slice none 0 0] (HK.out _ HB6.out).2.2 infoSizeCrl rfl (by simp [Value.oneCell']) ?_)
        have q6 := setRow_heap w6 (w.heap.size + 2) _ #[.slice none 0 0, .int .i64 0, .int .i64 0, .int .i64 0, .int .i64 0, .int .i64 0, .bool false, .slice none 0 0, .slice none 0 0] 36 (0, 0) (HK.out _ HB6.out).2.2
        have tt := setRow_touch w6 (w.heap.size + 2) #[.slice none 0 0, .int .i64 0, .int .i64 0, .int .i64 0, .int .i64 0, .int .i64 0, .bool false, .slice none 0 0, .slice none 0 0]
        try simp only [Exit.inBlock, Exit.then]
        have B3 := HBW.out.trans (HB6.out.mono HBW.out.size)
        exact bodyPost_ret (results_crl2 (by rfl) _ (w.heap.size + 2) rfl _ _ rfl q6) rfl (fun z m n cd hr => by obtain ⟨rfl, rfl, rfl, rfl⟩ := apR_base HOK.out HF0.out H4.out hr; exact ansI_zero (B3.trans (tt.below (by omega) B3.size)))
      · have H4 : Hid (¬ x.num < y.base) := hbase
        have t4 : decide (x.num < y.base) = false := by simpa using hbase
        obtain ⟨wb, hwb⟩ : ∃ wb, wb = w6.alloc (.cells #[.slice b1 m1 d1, .int .i64 y.num, .int .i64 y.base, .int .i64 y.tm, .int .i64 y.next, .int .i64 y.scope, .bool y.ind, .slice b2 m2 d2, .slice b3 m3 d3] 36) := ⟨_, rfl⟩
        have hsb : wb.heap.size = w6.heap.size + 1 := by rw [hwb]; simp
        have HGB : Hid (wb.heap[w6.heap.size]? = some (.cells #[.slice b1 m1 d1, .int .i64 y.num, .int .i64 y.base, .int .i64 y.tm, .int .i64 y.next, .int .i64 y.scope, .bool y.ind, .slice b2 m2 d2, .slice b3 m3 d3] 36 (0, 0))) := by show _ = _; rw [hwb]; exact heap_alloc_new w6 _
        have hbb6 : Below w6.heap.size w6 wb := by rw [hwb]; exact (Below.refl _ _).alloc (Nat.le_refl _) _
        have HS6 : Hid (w.heap.size + 3 ≤ w6.heap.size) := by have := HB6.out.size; have := HS1.out; show _ ≤ _; omega
        have HKB : Hid (Below w1.heap.size w1 wb) := HB6.out.trans (hbb6.mono HB6.out.size)
        have HWB : Hid (_ = _) := hwb
        clear hwb hbb6
        go_upto_region 9 with (refine wpList_load_row rfl 36 _ rfl (w.heap.size + 1) rfl 36 #[.slice b1 m1 d1, .int .i64 y.num, .int .i64 y.base, .int .i64 y.tm, .int .i64 y.next, .int .i64 y.scope, .bool y.ind, .slice b2 m2 d2, .slice b3 m3 d3] (0, 0) _ (HK.out _ HB6.out).2.1 Tryd.underlying36 rfl infoSizeCrl ?_)
        rw [← HWB.out]
        clear HWB x1 y2 hbase t4
        have x7 : wb.cell? ⟨w.heap.size, 7, none⟩ = some (.slice a2 n2 c2) := (cell_of_row _ _ 7 _ _ (0, 0) (HK.out _ HKB.out).1).trans rfl
        have y7 : wb.cell? ⟨w.heap.size + 1, 7, none⟩ = some (.slice b2 m2 d2) := (cell_of_row _ _ 7 _ _ (0, 0) (HK.out _ HKB.out).2.1).trans rfl
        go_wp2_with fail
        refine Calls.mono (HCH.out wb HKB.out) ?_
        rintro e w8 ⟨p, kz, dd, rfl, ⟨sl, hgs⟩, hb8⟩
        obtain rfl : (apl x.ents y.ents).length = kz := hgs.len
        clear x7 y7
        have hx8 := (hb8.block _ (by omega)).trans HGB.out
        have v2 : w8.cell? ⟨w6.heap.size, 2, none⟩ = some (.int .i64 y.base) := (cell_of_row _ _ 2 _ _ (0, 0) hx8).trans rfl
        have f2 : w8.frozen? ⟨w6.heap.size, 2, none⟩ = false := frozen_of_row w8 _ 2 _ _ hx8
        have hx8b : (w8.setCell ⟨w6.heap.size, 2, none⟩ (.int .i64 (-1))).heap[w6.heap.size]? = some (.cells #[.slice b1 m1 d1, .int .i64 y.num, .int .i64 (-1), .int .i64 y.tm, .int .i64 y.next, .int .i64 y.scope, .bool y.ind, .slice b2 m2 d2, .slice b3 m3 d3] 36 (0, 0)) := (heap_setCell_same w8 w6.heap.size 2 _ _ _ hx8).trans rfl
        have v7 : (w8.setCell ⟨w6.heap.size, 2, none⟩ (.int .i64 (-1))).cell? ⟨w6.heap.size, 7, none⟩ = some (.slice b2 m2 d2) := (cell_of_row _ _ 7 _ _ (0, 0) hx8b).trans rfl
        have f7 : (w8.setCell ⟨w6.heap.size, 2, none⟩ (.int .i64 (-1))).frozen? ⟨w6.heap.size, 7, none⟩ = false := frozen_of_row _ _ 7 _ _ hx8b
        obtain ⟨W, hW⟩ : ∃ W, W = (w8.setCell ⟨w6.heap.size, 2, none⟩ (.int .i64 (-1))).setCell ⟨w6.heap.size, 7, none⟩ (.slice p (apl x.ents y.ents).length dd) := ⟨_, rfl⟩
        have HX : Hid (W.heap[w6.heap.size]? = some (.cells #[.slice b1 m1 d1, .int .i64 y.num, .int .i64 (-1), .int .i64 y.tm, .int .i64 y.next, .int .i64 y.scope, .bool y.ind, .slice p (apl x.ents y.ents).length dd, .slice b3 m3 d3] 36 (0, 0))) := by show _ = _; rw [hW]; exact (heap_setCell_same _ w6.heap.size 7 _ _ _ hx8b).trans rfl
        have tW : Touch w6.heap.size (w6.heap.size + 1) w8 W := by rw [hW]; exact (touch_setC _ _ _ _ (Nat.le_refl _) (Nat.lt_succ_self _)).trans (touch_setC _ _ _ _ (Nat.le_refl _) (Nat.lt_succ_self _))
        have HGS : Hid (GsO w wb.heap.size W p (apl x.ents y.ents).length dd (apl x.ents y.ents) sl) := hgs.touch tW (by omega)
        have hB8 := HKB.out.trans (hb8.mono HKB.out.size)
        have HBL : Hid (Below w1.heap.size w1 W) := hB8.trans (tW.below (by have := HB6.out.size; omega) hB8.size)
        have HBW2 : Hid (Below w.heap.size w W) := HBW.out.trans (HBL.out.mono HBW.out.size)
        have HW8 : Hid (_ = _) := hW
        clear hx8 hx8b hW tW hgs hB8 hb8 HGB
        go_upto_region 10 with fail
        rw [← HW8.out]
        clear HW8 v2 f2 v7 f7
        have HLE : Hid ((apl x.ents y.ents).length ≤ 120) := by
          have q1 := apl_len x.ents y.ents
          have q2 := HOK.out.1.1.2.2.2.2.2.2.2.1
          have q3 := HOK.out.2.1.1.2.2.2.2.2.2.2.1
          show _ ≤ _
          omega
        have UNS := unsigned_any b1 m1 d1 p (apl x.ents y.ents).length dd b3 m3 d3 (apV x y) W ⟨HB.out.1.nm.kept HBW2.out, HGS.out.gns HBW2.out (by have := HLE.out; omega), HB.out.1.sg.kept HBW2.out, HB.out.1.mx⟩ ⟨HB.out.2.1, HB.out.2.2.1, by have := HLE.out; omega, fun k hk => apl_ok (fun k hk => HA.out.2.2.2.2.1 k (by rw [HA.out.1.en.len] at hk; exact hk)) (fun k hk => HB.out.2.2.2.2.1 k (by rw [HB.out.1.en.len] at hk; exact hk)) k hk, HB.out.2.2.2.2.2⟩ HN1.out HGS.out.caps
        unfold crv at UNS
        have HUN : Hid (_) := UNS
        have HBS : Hid (w.heap.size + 3 ≤ W.heap.size) := by have := HBL.out.size; have := HS1.out; show _ ≤ _; omega
        clear UNS HGS
        go_wp2_with (refine wpList_load_row rfl 36 _ rfl (w6.heap.size) rfl 36 #[.slice b1 m1 d1, .int .i64 y.num, .int .i64 (-1), .int .i64 y.tm, .int .i64 y.next, .int .i64 y.scope, .bool y.ind, .slice p (apl x.ents y.ents).length dd, .slice b3 m3 d3] (0, 0) _ HX.out Tryd.underlying36 rfl infoSizeCrl ?_)
        refine Calls.mono HUN.out ?_
        rintro e w9 ⟨hb9, ⟨h60, rfl⟩ | ⟨h60, p1, d1', p2, d2', p3, d3', sl, rfl, hct, hoc⟩⟩
        · have HB9 : Hid (Below w1.heap.size w1 w9) := HBL.out.trans (hb9.mono HBL.out.size)
          have H60 : Hid (_) := h60
          clear hb9 h60
          simp only [crv, zeroC]
          go_wp2_with (refine wpList_store_rowTo rfl 36 _ _ rfl rfl (w.heap.size + 2) #[.slice none 0 0, .int .i64 0, .int .i64 0, .int .i64 0, .int .i64 0, .int .i64 0, .bool false, .slice none 0 0, .slice none 0 0] rfl rfl 36 #[.slice none 0 0, .int .i64 0, .int .i64 0, .int .i64 0, .int .i64 0, .int .i64 0, .bool false, .slice none 0 0, .slice none 0 0] (HK.out _ HB9.out).2.2 infoSizeCrl rfl (by simp [Value.oneCell']) ?_)
          have q6 := setRow_heap w9 (w.heap.size + 2) _ #[.slice none 0 0, .int .i64 0, .int .i64 0, .int .i64 0, .int .i64 0, .int .i64 0, .bool false, .slice none 0 0, .slice none 0 0] 36 (0, 0) (HK.out _ HB9.out).2.2
          have tt := setRow_touch w9 (w.heap.size + 2) #[.slice none 0 0, .int .i64 0, .int .i64 0, .int .i64 0, .int .i64 0, .int .i64 0, .bool false, .slice none 0 0, .slice none 0 0]
          try simp only [Exit.inBlock, Exit.then]
          have B3 := HBW.out.trans (HB9.out.mono HBW.out.size)
          exact bodyPost_ret (results_crl2 (by rfl) _ (w.heap.size + 2) rfl _ _ rfl q6) rfl (fun z m n cd hr => by obtain ⟨rfl, rfl, rfl, rfl⟩ := apR_full HOK.out HF0.out (by have := H4.out; omega) H60.out hr; exact ansI_zero (B3.trans (tt.below (by omega) B3.size)))
        · have HB9 : Hid (Below w1.heap.size w1 w9) := HBL.out.trans (hb9.mono HBL.out.size)
          have H60 : Hid (_) := h60
          have HCT : Hid (_) := hct
          have HOC : Hid (_) := hoc
          clear hb9 h60 hct hoc
          simp only [crv, noSig, apV]
          go_wp2_with (refine wpList_store_rowTo rfl 36 _ _ rfl rfl (w.heap.size + 2) #[.slice p1 m1 d1', .int .i64 y.num, .int .i64 (-1), .int .i64 y.tm, .int .i64 y.next, .int .i64 y.scope, .bool y.ind, .slice p2 (apl x.ents y.ents).length d2', .slice p3 0 d3'] rfl rfl 36 #[.slice none 0 0, .int .i64 0, .int .i64 0, .int .i64 0, .int .i64 0, .int .i64 0, .bool false, .slice none 0 0, .slice none 0 0] (HK.out _ HB9.out).2.2 infoSizeCrl rfl (by simp [Value.oneCell']) ?_)
          have q6 := setRow_heap w9 (w.heap.size + 2) _ #[.slice p1 m1 d1', .int .i64 y.num, .int .i64 (-1), .int .i64 y.tm, .int .i64 y.next, .int .i64 y.scope, .bool y.ind, .slice p2 (apl x.ents y.ents).length d2', .slice p3 0 d3'] 36 (0, 0) (HK.out _ HB9.out).2.2
          have tt := setRow_touch w9 (w.heap.size + 2) #[.slice p1 m1 d1', .int .i64 y.num, .int .i64 (-1), .int .i64 y.tm, .int .i64 y.next, .int .i64 y.scope, .bool y.ind, .slice p2 (apl x.ents y.ents).length d2', .slice p3 0 d3']
          try simp only [Exit.inBlock, Exit.then]
          have B3 := HBW.out.trans (HB9.out.mono HBW.out.size)
          have hss := HBS.out
          have hlow := HOC.out.low (S := fun i => i = w.heap.size + 2) ⟨tt.os, tt.tape, tt.output, tt.size, fun l hl hne => tt.block l hl (by omega)⟩ (fun i hi => by omega)
          exact bodyPost_ret (results_crl2 (by rfl) _ (w.heap.size + 2) rfl _ _ rfl q6) rfl (fun z m n cd hr => by
            obtain ⟨rfl, rfl, rfl, rfl⟩ := apR_made HOK.out HF0.out (by have := H4.out; omega) H60.out hr
            have hcz := CrsT.on HCT.out tt (by omega) (Nat.le_refl _) (B' := W.heap.size)
            have hol := hlow.lowerC (B' := w.heap.size) (by omega)
            exact ⟨p1, d1', p2, d2', p3, d3', rfl, ⟨sl, ⟨hol.nm, hol.en, hcz.now.nm.len, rfl, rfl, fun j hj => own_slen hol.en hcz.now.en j hj⟩, _, _, _, hol⟩, B3.trans (tt.below (by omega) B3.size)⟩)
    · have HF : Hid (fitV x y ≠ 0) := hf
      obtain ⟨fv, hfv⟩ : ∃ fv, fv = fitV x y := ⟨_, rfl⟩
      rw [← hfv] at hf ⊢
      have HFV : Hid (_ = _) := hfv
      clear hfv
      go_wp2_with (refine wpList_store_rowTo rfl 36 _ _ rfl rfl (w.heap.size + 2) #[.slice none 0 0, .int .i64 0, .int .i64 0, .int .i64 0, .int .i64 0, .int .i64 0, .bool false, .slice none 0 0, .slice none 0 0] rfl rfl 36 #[.slice none 0 0, .int .i64 0, .int .i64 0, .int .i64 0, .int .i64 0, .int .i64 0, .bool false, .slice none 0 0, .slice none 0 0] (HK.out _ HB6.out).2.2 infoSizeCrl rfl (by simp [Value.oneCell']) ?_)
      have q6 := setRow_heap w6 (w.heap.size + 2) _ #[.slice none 0 0, .int .i64 0, .int .i64 0, .int .i64 0, .int .i64 0, .int .i64 0, .bool false, .slice none 0 0, .slice none 0 0] 36 (0, 0) (HK.out _ HB6.out).2.2
      have tt := setRow_touch w6 (w.heap.size + 2) #[.slice none 0 0, .int .i64 0, .int .i64 0, .int .i64 0, .int .i64 0, .int .i64 0, .bool false, .slice none 0 0, .slice none 0 0]
      try simp only [Exit.inBlock, Exit.then]
      have B3 := HBW.out.trans (HB6.out.mono HBW.out.size)
      exact bodyPost_ret (results_crl2 (by rfl) _ (w.heap.size + 2) rfl _ _ rfl q6) rfl (fun z m n cd hr => by obtain ⟨rfl, rfl, rfl, rfl⟩ := apR_fit HOK.out HF.out hr; rw [← HFV.out]; exact ansI_zero (B3.trans (tt.below (by omega) B3.size)))

end Go.Proofs.YtbfjkmlmnhphoaaDoor
