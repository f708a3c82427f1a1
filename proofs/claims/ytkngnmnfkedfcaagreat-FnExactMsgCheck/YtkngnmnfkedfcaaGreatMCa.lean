import Derived.Test.YtkngnmnfkedfcaaGreatRJ
import Derived.Test.YtkngnmnfkedfcaaGreatMHk
import Derived.Test.YtkngnmnfkedfcaaGreatMTRs
import Derived.Test.YtkngnmnfkedfcaaGreatTT4
import Derived.Test.YtkngnmnfkedfcaaGreatW2
import Derived.Deep.RegionHeldLaw
import Derived.Deep.RegionWith
import Derived.Deep.RegionHeld3
import Derived.BigQuiet
import Derived.Lib.QuietBelow
set_option linter.unusedVariables false
namespace Go.Proofs.YtkngnmnfkedfcaaGreat
open Go.RowKit Go.Sort

theorem kids_leaf (W : World) (x : It) (h : x.kids = []) : Kids 1 W none 0 x.kids := by
  rw [h]
  exact ⟨rfl, by decide, fun k hk => absurd hk (Nat.not_lt_zero _)⟩
theorem enc_leaf (r : Nat) (t : Int) (bs : List Int) (h0 : 1 ≤ t) (h1 : t ≤ 30) (hb : bs.length ≤ 100) : ∃ l, enc (r + 1) (.mk 0 t false bs []) = some l ∧ l.length ≤ 120 := by
  have hs : It.shape (.mk 0 t false bs []) = true := by
    unfold It.shape
    simp [It.cls, It.tag, It.cons, It.kids]
    omega
  have hi : innerBy (enc r) (.mk 0 t false bs []) = some bs := by
    unfold innerBy
    rw [if_neg (by simp [It.cons]), if_pos (by simp [It.body]; omega)]
    rfl
  have hh := headL_len (.mk 0 t false bs []) bs.length ⟨by simp [It.tag]; omega, by simp [It.tag]; omega⟩
  exact ⟨_, enc_some r _ bs hs hi (by rw [List.length_append]; omega), by rw [List.length_append]; omega⟩

theorem numberItem_agg (n : Int) (w : World) (h0 : -9223372036854775808 ≤ n) (h1 : n ≤ 9223372036854775807) :
    Calls Tryz.prog 65 #[.int .i64 n] w fun e w' => ∃ g k, e = .returned (.agg #[.int .i64 0, .int .i64 2, .bool false, .slice (some ⟨g, k, none⟩) (wsz n) (wsz n), .slice none 0 0]) ∧ w.heap.size ≤ g ∧ Row w' (some ⟨g, k, none⟩) (wsz n) (wbL n) ∧ Below w.heap.size w w' := numberItem_any n w h0 h1

theorem ownItem_agg (tag : Int) (a : Option Addr) (n c : Nat) (w : World) :
    Calls Tryz.prog 63 #[.int .i64 tag, .slice a n c] w fun e w' => e = .returned (.agg #[.int .i64 1, .int .i64 tag, .bool true, .slice none 0 0, .slice a n c]) ∧ Below w.heap.size w w' := ownItem_any tag a n c [] w

theorem itemBytes_agg (tag : Int) (a : Option Addr) (n c : Nat) (ks : List It) (l : List Int) (w : World) (hk : Kids 2 w a n ks) (hl : enc 12 (boxI tag ks) = some l) :
    Calls Tryz.prog 62 #[.agg #[.int .i64 1, .int .i64 tag, .bool true, .slice none 0 0, .slice a n c]] w fun e w' => ∃ a' c', e = .returned (.tuple #[.slice a' l.length c', .bool true]) ∧ Own w.heap.size w' a' l.length c' l ∧ Below w.heap.size w w' := by
  refine Calls.mono (implItemBytes_any 2 (boxI tag ks) none 0 0 a n c w ⟨rfl, fun k hk => absurd hk (Nat.not_lt_zero _), by simp [boxI, It.body]⟩ (fun _ => rfl) (by decide) hk) ?_
  rintro e w1 ⟨hans, hb1⟩
  rcases hans with ⟨a2, n2, c2, bs2, rfl, he2, ho2⟩ | ⟨rfl, he2⟩
  · have e3 := he2.out
    rw [hl] at e3
    simp at e3
    subst e3
    have hn := ho2.toRow.len
    subst hn
    exact ⟨a2, c2, rfl, ho2, hb1⟩
  · have e3 := he2.out
    rw [hl] at e3
    cases e3

theorem kids_two (X : World) (T : Nat) (x1 x2 : It) (a1 a2 : Option Addr) (n1 c1 n2 c2 : Nat)
    (h1 : Row X a1 n1 x1.body) (h2 : Row X a2 n2 x2.body) (e1 : a1 = none → c1 = 0) (e2 : a2 = none → c2 = 0)
    (m1 : n1 ≤ 5000) (m2 : n2 ≤ 1000) (k1 : x1.kids = []) (k2 : x2.kids = []) :
    Kids 2 (X.alloc (.cells #[.int .i64 x1.cls, .int .i64 x1.tag, .bool x1.cons, .slice a1 n1 c1, .slice none 0 0, .int .i64 x2.cls, .int .i64 x2.tag, .bool x2.cons, .slice a2 n2 c2, .slice none 0 0] T)) (some ⟨X.heap.size, 0, none⟩) 2 [x1, x2] := by
  have hb : Below X.heap.size X (X.alloc (.cells #[.int .i64 x1.cls, .int .i64 x1.tag, .bool x1.cons, .slice a1 n1 c1, .slice none 0 0, .int .i64 x2.cls, .int .i64 x2.tag, .bool x2.cons, .slice a2 n2 c2, .slice none 0 0] T)) := (Below.refl _ _).alloc (Nat.le_refl _) _
  have hc := fun j => cell_of_row _ X.heap.size j _ T (0, 0) (heap_alloc_new X (.cells #[.int .i64 x1.cls, .int .i64 x1.tag, .bool x1.cons, .slice a1 n1 c1, .slice none 0 0, .int .i64 x2.cls, .int .i64 x2.tag, .bool x2.cons, .slice a2 n2 c2, .slice none 0 0] T))
  refine ⟨rfl, by decide, fun k hk => ⟨X.heap.size, 0, rfl, by simp, ?_⟩⟩
  rcases (show k = 0 ∨ k = 1 by omega) with rfl | rfl
  · exact ⟨a1, n1, c1, none, 0, 0, (hc 0).trans rfl, (hc 1).trans rfl, (hc 2).trans rfl, (hc 3).trans rfl, (hc 4).trans rfl, h1.kept hb, e1, by omega, kids_leaf _ x1 k1⟩
  · exact ⟨a2, n2, c2, none, 0, 0, (hc 5).trans rfl, (hc 6).trans rfl, (hc 7).trans rfl, (hc 8).trans rfl, (hc 9).trans rfl, h2.kept hb, e2, by omega, kids_leaf _ x2 k2⟩
theorem enc_leafB (r : Nat) (t : Int) (bs : List Int) (h0 : 1 ≤ t) (h1 : t ≤ 30) (hb : bs.length ≤ 4000) : ∃ l, enc (r + 1) (.mk 0 t false bs []) = some l ∧ l.length ≤ 4020 := by
  have hs : It.shape (.mk 0 t false bs []) = true := by
    unfold It.shape
    simp [It.cls, It.tag, It.cons, It.kids]
    omega
  have hi : innerBy (enc r) (.mk 0 t false bs []) = some bs := by
    unfold innerBy
    rw [if_neg (by simp [It.cons]), if_pos (by simp [It.body]; omega)]
    rfl
  have hh := headL_len (.mk 0 t false bs []) bs.length ⟨by simp [It.tag]; omega, by simp [It.tag]; omega⟩
  exact ⟨_, enc_some r _ bs hs hi (by rw [List.length_append]; omega), by rw [List.length_append]; omega⟩
theorem enc_box2 (r : Nat) (tag : Int) (x1 x2 : It) (p1 p2 : List Int) (h0 : 1 ≤ tag) (h1 : tag ≤ 30) (e1 : enc r x1 = some p1) (e2 : enc r x2 = some p2) (l1 : p1.length ≤ 4020) (l2 : p2.length ≤ 120) :
    ∃ l, enc (r + 1) (boxI tag [x1, x2]) = some l ∧ l.length ≤ 4200 := by
  have hs : It.shape (boxI tag [x1, x2]) = true := by
    unfold It.shape boxI
    simp [It.cls, It.tag, It.cons, It.body]
    omega
  have hi : innerBy (enc r) (boxI tag [x1, x2]) = some (p1 ++ p2) := by
    unfold innerBy boxI
    simp only [It.cons, It.kids, encK, e1, e2]
    simp
    exact ⟨by omega, by omega⟩
  have hh := headL_len (boxI tag [x1, x2]) (p1 ++ p2).length ⟨by simp [boxI, It.tag]; omega, by simp [boxI, It.tag]; omega⟩
  have hlen : (p1 ++ p2).length ≤ 4140 := by simp; omega
  exact ⟨_, enc_some r _ _ hs hi (by rw [List.length_append]; omega), by rw [List.length_append]; omega⟩
/-- What a signer signs. -/
def sgI (tag : Int) (ws : List Int) (at2 : Int) : It := boxI tag [bytI ws, numI at2]
theorem sgI_enc (tag : Int) (ws : List Int) (at2 : Int) (h0 : 1 ≤ tag) (h1 : tag ≤ 30) (hw : ws.length ≤ 4000) : ∃ l, enc 12 (sgI tag ws at2) = some l ∧ l.length ≤ 4200 := by
  obtain ⟨p1, e1, l1⟩ := enc_leafB 10 4 ws (by decide) (by decide) hw
  obtain ⟨p2, e2, l2⟩ := enc_leaf 10 2 (wbL at2) (by decide) (by decide) (by rw [wbL_len]; have := (wsz_bd at2).2; omega)
  exact enc_box2 11 tag _ _ p1 p2 h0 h1 e1 e2 l1 l2
def sgB (tag : Int) (ws : List Int) (at2 : Int) : List Int := (enc 12 (sgI tag ws at2)).getD []
theorem sgB_enc (tag : Int) (ws : List Int) (at2 : Int) (h0 : 1 ≤ tag) (h1 : tag ≤ 30) (hw : ws.length ≤ 4000) : enc 12 (sgI tag ws at2) = some (sgB tag ws at2) ∧ (sgB tag ws at2).length ≤ 4200 := by
  obtain ⟨l, hl, hll⟩ := sgI_enc tag ws at2 h0 h1 hw
  unfold sgB
  rw [hl]
  exact ⟨rfl, hll⟩

set_option maxRecDepth 10000 in
set_option maxHeartbeats 1000000 in
theorem l2LeafB_any (tag : Int) (a : Option Addr) (n c : Nat) (bs : List Int) (w : World) (h : Row w a n bs) (hc : a = none → c = 0) (hn : n ≤ 5000) :
    Calls Tryz.prog 77 #[.int .i64 0, .int .i64 tag, .slice a n c] w fun e w' => ∃ a' c', e = .returned (itv (.mk 0 tag false bs []) a' n c' none 0 0) ∧ Own (w.heap.size + 1) w' a' n c' bs ∧ Below w.heap.size w w' := by
  obtain ⟨i0, hi, hz0, hz1, hz2⟩ := info_parts Tryz.info5
  have hbx := box5_below w
  have hnx := box5_new w
  have hsx := box5_size w
  have hal : Below (box5 w).heap.size (box5 w) ((box5 w).alloc (.cells #[] 5)) := (Below.refl _ _).alloc (Nat.le_refl _) _
  have hor0 : Own (w.heap.size + 1) ((box5 w).alloc (.cells #[] 5)) (some ⟨w.heap.size + 1, 0, none⟩) 0 0 [] := own_zero _ _ _ (by rw [hsx]) (by rw [hsx]; exact Nat.le_refl _)
  have hB1 : Below w.heap.size w ((box5 w).alloc (.cells #[] 5)) := hbx.trans (hal.mono hbx.size)
  have hn1 := (hal.block _ (by omega)).trans hnx
  have HR : Hid (Row ((box5 w).alloc (.cells #[] 5)) a n bs) := h.kept (hB1.mono (Nat.le_refl _))
  have HN : Hid (_) := hn1
  have hsz1 : ((box5 w).alloc (.cells #[] 5)).heap.size = w.heap.size + 2 := by simp [hsx]
  have HO : Hid (_) := hor0
  have HB1 : Hid (_) := hB1
  clear h hal hbx hnx hn1 hor0 hB1
  unfold box5 at HR HN HO HB1 hsz1 hsx
  go_enter Tryz.func77, Tryz.ntmps77
  go_wp2_with (at_builtin; refine wpList_append_row _ rfl (.tmp 9) (.tmp 10) 22 rfl (w.heap.size + 1) i0 Tryz.underlying22 hi hz0 hz1 hz2 _ _ _ rfl HO.out.row a n c bs rfl HR.out hc (by omega) (by rw [hsz1]; omega) ?_; intro v1 w1 hv1 hg1; obtain ⟨a1, c1, rfl, ho1⟩ := own_appended (xs := []) (ys := bs) hv1 HO.out.byte HR.out.byte; have hb1 : Below w.heap.size w w1 := below_appended HB1.out HB1.out.size (HO.out.mono (by omega)).row hg1; have ho1' : Own (w.heap.size + 1) w1 a1 n c1 bs := (by simpa using ho1); have hn2 : w1.heap[w.heap.size]? = some (.cells #[.int .i64 0, .int .i64 0, .bool false, .slice none 0 0, .slice none 0 0] 95 (0, 0)) := (hg1.block w.heap.size (by rw [hsz1]; omega) (by show some w.heap.size ≠ some (w.heap.size + 1); simp)).trans HN.out; obtain ⟨_, x0, x1, x2, x3, x4, y0, y1, y2, y3, y4⟩ := Box5.of hn2; have HN2 : Hid (_) := hn2; have HB2 : Hid (Below w.heap.size w w1) := hb1; have HO2 : Hid (Own (w.heap.size + 1) w1 a1 n c1 bs) := ho1'; have hs1 := hg1.size; clear hn2 hb1 ho1 ho1' hv1 hg1)
  try simp only [Exit.inBlock, Exit.then]
  refine bodyPost_ret (results_it rfl _ w.heap.size rfl _ _ _ _ _ _ (put5_heap HN2.out _ _ _ _ _)) rfl ⟨a1, c1, by first | rfl | simp [itv, It.cls, It.tag, It.cons], ?_, ?_⟩
  · exact HO2.out.touch5 (put5_touch w1 w.heap.size _ _ _ _ _) (by omega)
  · exact HB2.out.trans ((put5_touch w1 w.heap.size _ _ _ _ _).below (Nat.le_refl _) HB2.out.size)

set_option maxRecDepth 10000 in
set_option maxHeartbeats 1000000 in
theorem l9BytesB_any (a : Option Addr) (n c : Nat) (bs : List Int) (w : World) (h : Row w a n bs) (hc : a = none → c = 0) (hn : n ≤ 5000) :
    Calls Tryz.prog 53 #[.slice a n c] w fun e w' => ∃ a c, e = .returned (itv (bytI bs) a n c none 0 0) ∧ Own (w.heap.size + 1) w' a n c bs ∧ Below w.heap.size w w' := by
  have hbx := box5_below w
  have hnx := box5_new w
  have hsx := box5_size w
  obtain ⟨wb, hwb⟩ : ∃ wb, wb = box5 w := ⟨_, rfl⟩
  rw [← hwb] at hbx hnx hsx
  unfold box5 at hwb
  go_enter Tryz.func53, Tryz.ntmps53
  go_wp2_with fail
  rw [← hwb]
  clear hwb
  have hnx1 := hnx
  have B1 := hbx
  refine (l2LeafB_any 4 a n c bs _ (h.kept hbx) hc hn).mono ?_
  rintro e w2 ⟨a2, c2, rfl, ho2, hb2⟩
  have hs2 := hb2.size
  have hn1 := (hb2.block _ (by omega)).trans (hnx1)
  have B2 : Below w.heap.size w w2 := B1.trans (hb2.mono (by omega))
  obtain ⟨_, x0, x1, x2, x3, x4, y0, y1, y2, y3, y4⟩ := Box5.of hn1
  have HO : Hid (Own (w.heap.size + 1) w2 a2 n c2 bs) := ho2.mono (by omega)
  have HN : Hid (_) := hn1
  have HB : Hid (Below w.heap.size w w2) := B2
  clear ho2 hn1 B2 B1 hb2 hnx hbx hnx1
  unfold itv
  simp only [It.cls, It.tag, It.cons]
  go_wp2_with fail
  try simp only [Exit.inBlock, Exit.then]
  refine bodyPost_ret (results_it rfl _ w.heap.size rfl _ _ _ _ _ _ (put5_heap HN.out _ _ _ _ _)) rfl ⟨a2, c2, rfl, ?_, ?_⟩
  · exact HO.out.touch5 (put5_touch w2 w.heap.size _ _ _ _ _) (by omega)
  · exact HB.out.trans ((put5_touch w2 w.heap.size _ _ _ _ _).below (Nat.le_refl _) HB.out.size)

theorem bytesItem_agg (a : Option Addr) (n c : Nat) (w : World) : Calls Tryz.prog 64 #[.slice a n c] w fun e w' => e = .returned (.agg #[.int .i64 0, .int .i64 4, .bool false, .slice a n c, .slice none 0 0]) ∧ Below w.heap.size w w' := bytesItem_any a n c [] w

theorem l9BytesB_agg (a : Option Addr) (n c : Nat) (bs : List Int) (w : World) (h : Row w a n bs) (hc : a = none → c = 0) (hn : n ≤ 5000) : Calls Tryz.prog 53 #[.slice a n c] w fun e w' => ∃ a c, e = .returned (.agg #[.int .i64 0, .int .i64 4, .bool false, .slice a n c, .slice none 0 0]) ∧ Own (w.heap.size + 1) w' a n c bs ∧ Below w.heap.size w w' := l9BytesB_any a n c bs w h hc hn

set_option maxRecDepth 10000 in
set_option maxHeartbeats 4000000 in
theorem signedAt_any (tag : Int) (am : Option Addr) (nn c : Nat) (ws : List Int) (at2 : Int) (l : List Int) (w : World) (hr : Row w am nn ws) (hc : am = none → c = 0) (hn : nn ≤ 4000) (h4 : -9223372036854775808 ≤ at2 ∧ at2 ≤ 9223372036854775807) (hl : enc 12 (sgI tag ws at2) = some l) :
    Calls Tryz.prog 40 #[.int .i64 tag, .slice am nn c, .int .i64 at2] w fun e w' => ∃ a' c', e = .returned (.slice a' l.length c') ∧ Own w.heap.size w' a' l.length c' l ∧ Below w.heap.size w w' := by
  have HL : Hid (enc 12 (boxI tag [bytI ws, numI at2]) = some l) := hl
  have z1 := wsz_bd at2
  clear hl
  go_enter Tryz.func40, Tryz.ntmps40
  go_wp2_with fail
  refine (bytesItem_agg am nn c _).mono ?_
  rintro e w1 ⟨rfl, hb1⟩
  go_wp2_with fail
  refine (numberItem_agg at2 _ h4.1 h4.2).mono ?_
  rintro e w2 ⟨g2, k2, rfl, _, hr2, hb2⟩
  have B2 := keepT hb1 hb2
  have KS : Hid (Kids 2 (w2.alloc (.cells #[.int .i64 0, .int .i64 4, .bool false, .slice am nn c, .slice none 0 0, .int .i64 0, .int .i64 2, .bool false, .slice (some ⟨g2, k2, none⟩) (wsz at2) (wsz at2), .slice none 0 0] 95)) (some ⟨w2.heap.size, 0, none⟩) 2 [bytI ws, numI at2]) :=
    kids_two w2 95 (bytI ws) (numI at2) _ _ _ _ _ _ (hr.kept B2) hr2 hc (fun h => by cases h) (by omega) (by omega) rfl rfl
  have B3 : Below w.heap.size w (w2.alloc (.cells #[.int .i64 0, .int .i64 4, .bool false, .slice am nn c, .slice none 0 0, .int .i64 0, .int .i64 2, .bool false, .slice (some ⟨g2, k2, none⟩) (wsz at2) (wsz at2), .slice none 0 0] 95)) := B2.alloc B2.size _
  clear hb1 hb2 hr2
  go_wp2_with fail
  refine (ownItem_agg tag (some ⟨w2.heap.size, 0, none⟩) 2 2 _).mono ?_
  rintro e w4 ⟨rfl, hb4⟩
  have B4 := keepT B3 hb4
  have KS4 : Hid (Kids 2 w4 (some ⟨w2.heap.size, 0, none⟩) 2 [bytI ws, numI at2]) := KS.out.kept hb4
  clear KS
  go_wp2_with fail
  refine (itemBytes_agg tag (some ⟨w2.heap.size, 0, none⟩) 2 2 [bytI ws, numI at2] l _ KS4.out HL.out).mono ?_
  rintro e w5 ⟨a5, c5, rfl, ho5, hb5⟩
  have HO5 : Hid (Own w.heap.size w5 a5 l.length c5 l) := ho5.mono B4.size
  have B5 := keepT B4 hb5
  clear ho5
  go_wp2_with fail
  go_ret
  exact ⟨a5, c5, rfl, HO5.out, B5⟩

set_option maxRecDepth 10000 in
set_option maxHeartbeats 4000000 in
theorem l17Body_any (tag : Int) (am : Option Addr) (nn c : Nat) (ws : List Int) (at2 : Int) (l : List Int) (w : World) (hr : Row w am nn ws) (hc : am = none → c = 0) (hn : nn ≤ 4000) (hl : enc 12 (sgI tag ws at2) = some l) :
    Calls Tryz.prog 35 #[.int .i64 tag, .slice am nn c, .int .i64 at2] w fun e w' => ∃ a' c', e = .returned (.slice a' l.length c') ∧ Own w.heap.size w' a' l.length c' l ∧ Below w.heap.size w w' := by
  have HL : Hid (enc 12 (boxI tag [bytI ws, numI at2]) = some l) := hl
  have z1 := wsz_bd at2
  clear hl
  go_enter Tryz.func35, Tryz.ntmps35
  go_wp2_with fail
  refine (l9BytesB_agg am nn c ws _ hr hc (by omega)).mono ?_
  rintro e w1 ⟨a1, c1, rfl, ho1, hb1⟩
  go_wp2_with fail
  refine (l9Num_agg at2 _).mono ?_
  rintro e w2 ⟨a2, c2, rfl, ho2, hb2⟩
  have B2 := keepT hb1 hb2
  have KS : Hid (Kids 2 (w2.alloc (.cells #[.int .i64 0, .int .i64 4, .bool false, .slice a1 nn c1, .slice none 0 0, .int .i64 0, .int .i64 2, .bool false, .slice a2 (wsz at2) c2, .slice none 0 0] 95)) (some ⟨w2.heap.size, 0, none⟩) 2 [bytI ws, numI at2]) :=
    kids_two w2 95 (bytI ws) (numI at2) _ _ _ _ _ _ (ho1.toRow.kept hb2) ho2.toRow ho1.nil ho2.nil (by omega) (by omega) rfl rfl
  have B3 : Below w.heap.size w (w2.alloc (.cells #[.int .i64 0, .int .i64 4, .bool false, .slice a1 nn c1, .slice none 0 0, .int .i64 0, .int .i64 2, .bool false, .slice a2 (wsz at2) c2, .slice none 0 0] 95)) := B2.alloc B2.size _
  clear hb1 hb2 ho1 ho2
  go_wp2_with fail
  refine (l2Box_agg tag (some ⟨w2.heap.size, 0, none⟩) 2 2 _).mono ?_
  rintro e w4 ⟨rfl, hb4⟩
  have B4 := keepT B3 hb4
  have KS4 : Hid (Kids 2 w4 (some ⟨w2.heap.size, 0, none⟩) 2 [bytI ws, numI at2]) := KS.out.kept hb4
  clear KS
  go_wp2_with fail
  refine (l2Bytes_agg tag (some ⟨w2.heap.size, 0, none⟩) 2 2 [bytI ws, numI at2] l _ KS4.out HL.out).mono ?_
  rintro e w5 ⟨a5, c5, rfl, ho5, hb5⟩
  have HO5 : Hid (Own w.heap.size w5 a5 l.length c5 l) := ho5.mono B4.size
  have B5 := keepT B4 hb5
  clear ho5
  go_wp2_with fail
  go_ret
  exact ⟨a5, c5, rfl, HO5.out, B5⟩

end Go.Proofs.YtkngnmnfkedfcaaGreat

set_option linter.unusedVariables false
namespace Go.Proofs.YtkngnmnfkedfcaaGreat
open Go.RowKit Go.Sort

def SaysG (P : Prop) (w : World) (e : Ending) (w' : World) : Prop := ∃ b, e = .returned (.bool b) ∧ Hid (b = true ↔ P) ∧ Below w.heap.size w w'
theorem saysG_t {P : Prop} {w w' : World} (h : P) (hb : Below w.heap.size w w') : SaysG P w (.returned (.bool true)) w' := ⟨true, rfl, ⟨fun _ => h, fun _ => rfl⟩, hb⟩
theorem saysG_f {P : Prop} {w w' : World} (h : ¬ P) (hb : Below w.heap.size w w') : SaysG P w (.returned (.bool false)) w' := ⟨false, rfl, ⟨fun e => (by cases e), fun e => absurd e h⟩, hb⟩
/-- Signers that are right, so many levels deep. -/
def okS : Nat → List ItT → Prop
  | 0, xs => xs.length = 0
  | d + 1, xs => xs.length ≤ 6 ∧ ∀ k, k < xs.length → timP (xs.getD k default).at2 ∧ (xs.getD k default).sg.length ≤ 500 ∧ okS d (xs.getD k default).over
def elP (d : Nat) (x : ItT) : Prop := timP x.at2 ∧ x.sg.length ≤ 500 ∧ okS d x.over
def AllEl (d : Nat) (xs : List ItT) (n : Nat) : Prop := ∀ k, k < n → elP d (xs.getD k default)
theorem okS_succ (d : Nat) (xs : List ItT) (n : Nat) (h : xs.length = n) : okS (d + 1) xs ↔ n ≤ 6 ∧ AllEl d xs n := by subst h; exact Iff.rfl
theorem cells4g {W : World} {g : Nat} {x y z u : Value} {t : TypeId} (h : W.heap[g]? = some (.cells #[x, y, z, u] t (0, 0))) : W.cell? ⟨g, 0, none⟩ = some x ∧ W.cell? ⟨g, 1, none⟩ = some y ∧ W.cell? ⟨g, 2, none⟩ = some z ∧ W.cell? ⟨g, 3, none⟩ = some u :=
  ⟨(cell_of_row _ _ 0 _ t (0, 0) h).trans rfl, (cell_of_row _ _ 1 _ t (0, 0) h).trans rfl, (cell_of_row _ _ 2 _ t (0, 0) h).trans rfl, (cell_of_row _ _ 3 _ t (0, 0) h).trans rfl⟩
theorem cells2m {W : World} {g : Nat} {x y : Value} {t : TypeId} (h : W.heap[g]? = some (.cells #[x, y] t (0, 0))) : W.cell? ⟨g, 0, none⟩ = some x ∧ W.cell? ⟨g, 1, none⟩ = some y :=
  ⟨(cell_of_row _ _ 0 _ t (0, 0) h).trans rfl, (cell_of_row _ _ 1 _ t (0, 0) h).trans rfl⟩
theorem KidsT.len {d : Nat} {w : World} {a : Option Addr} {n : Nat} {xs : List ItT} (h : KidsT d w a n xs) : xs.length = n ∧ n ≤ 9223372036854775807 := by
  cases d with
  | zero => exact h.elim
  | succ d => exact ⟨h.1, h.2.1⟩

def SgOk (d : Nat) : Prop := ∀ (L : Int) (D : Nat) (a : Option Addr) (n c : Nat) (xs : List ItT) (w : World), L = d → KidsT D w a n xs → Calls Tryz.prog 37 #[.slice a n c, .int .i64 L] w (SaysG (okS d xs) w)

set_option maxRecDepth 10000 in
set_option maxHeartbeats 2000000 in
theorem sgClosure_any (d : Nat) (hd : d ≤ 10) (ih : SgOk d) (D : Nat) (x : ItT) (ab : Option Addr) (nb cb : Nat) (ak : Option Addr) (nk ck : Nat) (g : Nat) (w : World) (hg : g < w.heap.size) (cg : w.cell? ⟨g, 0, none⟩ = some (.int .i64 ((d : Int) + 1))) (hl : x.sg.length = nb) (hnb : nb ≤ 9223372036854775807) (hk : KidsT D w ak nk x.over) :
    Calls Tryz.prog 56 #[.agg #[.int .u64 x.ky, .int .i64 x.at2, .slice ab nb cb, .slice ak nk ck], .pointer (some ⟨g, 0, none⟩)] w (SaysG (elP d x) w) := by
  obtain ⟨wb, hwb⟩ : ∃ wb, wb = w.alloc (.cells #[.int .u64 x.ky, .int .i64 x.at2, .slice ab nb cb, .slice ak nk ck] 50) := ⟨_, rfl⟩
  have hbb : Below w.heap.size w wb := by rw [hwb]; exact (Below.refl _ _).alloc (Nat.le_refl _) _
  have hblk : wb.heap[w.heap.size]? = some (.cells #[.int .u64 x.ky, .int .i64 x.at2, .slice ab nb cb, .slice ak nk ck] 50 (0, 0)) := by rw [hwb]; exact heap_alloc_new w _
  obtain ⟨c0, c1, c2, c3⟩ := cells4g hblk
  have cgb : wb.cell? ⟨g, 0, none⟩ = some (.int .i64 ((d : Int) + 1)) := (hbb.cell (p := ⟨g, 0, none⟩) hg).trans cg
  have HK : Hid (KidsT D wb ak nk x.over) := hk.kept hbb
  have HW : Hid (_ = _) := hwb
  have HL : Hid (x.sg.length = nb) := hl
  clear hwb hblk cg hk hl
  go_enter Tryz.func56, Tryz.ntmps56
  go_upto_region 1 with fail
  rw [← HW.out]
  clear HW
  go_wp2_with fail
  refine (isTim_any x.at2 _).mono ?_
  rintro e w2 ⟨rfl, hw2⟩
  have hw2 := hw2.symm
  subst hw2
  by_cases h1 : timP x.at2
  case neg =>
    rw [decide_eq_false h1]
    have HN : Hid (¬ elP d x) := fun h => h1 h.1
    clear h1
    go_wp2
    go_ret
    exact saysG_f HN.out hbb
  rw [decide_eq_true h1]
  have H1 : Hid (timP x.at2) := h1
  clear h1
  by_cases h2 : nb ≤ 500
  case neg =>
    have q2 : ¬ (nb : Int) ≤ 500 := by omega
    have HN : Hid (¬ elP d x) := fun h => h2 (by have := h.2.1; rw [HL.out] at this; exact this)
    clear h2
    go_wp2
    go_ret
    exact saysG_f HN.out hbb
  have q2 : (nb : Int) ≤ 500 := by omega
  go_wp2_with fail
  refine (ih _ D ak nk ck x.over _ (by first | omega | (simp; omega) | simp) HK.out).mono ?_
  rintro e w3 ⟨b, rfl, HB, hb3⟩
  have hB := keepT hbb hb3
  clear c0 c1 c2 c3 cgb
  cases b with
  | true =>
    have HP : Hid (elP d x) := ⟨H1.out, by rw [HL.out]; exact h2, HB.out.1 rfl⟩
    go_wp2
    go_ret
    exact saysG_t HP.out hB
  | false =>
    have HP : Hid (¬ elP d x) := fun h => by have := HB.out.2 h.2.2; cases this
    go_wp2
    go_ret
    exact saysG_f HP.out hB

set_option maxRecDepth 10000 in
set_option maxHeartbeats 2000000 in
theorem everySigner_any (d : Nat) (hd : d ≤ 10) (ih : SgOk d) (D : Nat) (a : Option Addr) (n c : Nat) (xs : List ItT) (g : Nat) (w : World) (hg : g < w.heap.size) (cg : w.cell? ⟨g, 0, none⟩ = some (.int .i64 ((d : Int) + 1))) (h : KidsT D w a n xs) :
    Calls Tryz.prog 55 #[.slice a n c, .func (Fn.func 56) #[] #[.pointer (some ⟨g, 0, none⟩)]] w (SaysG (AllEl d xs n) w) := by
  obtain ⟨D, rfl⟩ : ∃ D', D = D' + 1 := by
    cases D with
    | zero => exact h.elim
    | succ D => exact ⟨D, rfl⟩
  have H0 : Hid (KidsT (D + 1) w a n xs) := h
  have HCG : Hid (w.cell? ⟨g, 0, none⟩ = some (.int .i64 ((d : Int) + 1))) := cg
  have hn := h.2.1
  clear h cg
  go_enter Tryz.func55, Tryz.ntmps55
  go_wp2
  go_loopw [9] (fun i wr => ∃ k : Nat, k ≤ n ∧ i = .int .i64 k ∧ Hid (AllEl d xs k) ∧ Below w.heap.size w wr) (fun i _ => n - (intOf i).toNat)
  case atStart => exact ⟨0, Nat.zero_le _, rfl, fun k hk => absurd hk (Nat.not_lt_zero _), Below.refl _ _⟩
  case round =>
    obtain ⟨k, hk, rfl, HE, hbr⟩ := hrel
    have hws := hbr.size
    by_cases hlt : k < n
    · obtain ⟨b, off, rfl, hlb, ab, nb, cb, ak, nk, ck, c0, c1, c2, c3, hr, hnil, hnb, hu, hkk⟩ := H0.out.2.2 k hlt
      obtain ⟨y, hy⟩ : ∃ y, y = xs.getD k default := ⟨_, rfl⟩
      rw [← hy] at c0 c1 hr hkk
      have HY : Hid (y = xs.getD k default) := hy
      have cc : ∀ j, wr.cell? ⟨b, j, none⟩ = w.cell? ⟨b, j, none⟩ := fun j => hbr.cell (p := ⟨b, j, none⟩) hlb
      rw [← cc] at c0 c1 c2 c3
      have hkni : (k : Int) < (n : Int) := by omega
      have hbw : b < wr.heap.size := by omega
      have hbz : Below wr.heap.size wr (wr.alloc (.cells #[.int .u64 y.ky, .int .i64 y.at2, .slice ab nb cb, .slice ak nk ck] 50)) := (Below.refl _ _).alloc (Nat.le_refl _) _
      have HC : Hid (∀ W, Below w.heap.size w W → Calls Tryz.prog 56 #[.agg #[.int .u64 y.ky, .int .i64 y.at2, .slice ab nb cb, .slice ak nk ck], .pointer (some ⟨g, 0, none⟩)] W (SaysG (elP d y) W)) := fun W hW => sgClosure_any d hd ih D y ab nb cb ak nk ck g W (Nat.lt_of_lt_of_le hg hW.size) ((hW.cell (p := ⟨g, 0, none⟩) hg).trans HCG.out) hr.len hnb (hkk.kept hW)
      clear cc hy hr hkk
      go_wp2_with fail
      refine (HC.out _ (keepT hbr hbz)).mono ?_
      rintro e w2 ⟨bb, rfl, hbi, hb2⟩
      have B2 : Below w.heap.size w w2 := hbr.trans ((keepT hbz hb2).mono hws)
      clear c0 c1 c2 c3
      cases bb with
      | true =>
        have HP : Hid (elP d y) := hbi.out.1 rfl
        clear hbi
        go_wp2
        go_roundw
        case rel => exact ⟨k + 1, by omega, by go_num, fun j hj => by
          by_cases e : j < k
          · exact HE.out j e
          · obtain rfl : j = k := by omega
            rw [← HY.out]; exact HP.out, B2⟩
        case measure => simp [intOf]; omega
      | false =>
        have HP : Hid (¬ elP d y) := fun h => by have := hbi.out.2 h; cases this
        clear hbi
        go_wp2
        go_ret
        exact saysG_f (fun e => HP.out (by rw [HY.out]; exact e k hlt)) B2
    · obtain rfl : k = n := by omega
      go_wp2
      go_ret
      exact saysG_t HE.out hbr

set_option maxRecDepth 10000 in
set_option maxHeartbeats 2000000 in
theorem signersOk_zero : SgOk 0 := by
  intro L D a n c xs w hL hk
  obtain rfl : L = 0 := hL
  obtain ⟨hlen, hn⟩ := hk.len
  clear hk
  have hb : Below w.heap.size w (w.alloc (.cells #[.int .i64 0] 3)) := (Below.refl _ _).alloc (Nat.le_refl _) _
  by_cases h0 : n = 0
  · subst h0
    go_enter Tryz.func37, Tryz.ntmps37
    go_wp2
    go_ret
    exact saysG_t hlen hb
  · have q0 : ((n : Int) == 0) = false := by simp [h0]
    have HN : Hid (¬ okS 0 xs) := fun h => h0 (hlen.symm.trans h)
    go_enter Tryz.func37, Tryz.ntmps37
    go_wp2
    go_ret
    exact saysG_f HN.out hb

set_option maxRecDepth 10000 in
set_option maxHeartbeats 2000000 in
theorem signersOk_next (d : Nat) (hd : d ≤ 10) (ih : SgOk d) : SgOk (d + 1) := by
  intro L D a n c xs w hL hk
  obtain rfl : L = (d : Int) + 1 := by omega
  clear hL
  obtain ⟨hlen, hn⟩ := hk.len
  obtain ⟨wb, hwb⟩ : ∃ wb, wb = w.alloc (.cells #[.int .i64 ((d : Int) + 1)] 3) := ⟨_, rfl⟩
  have hbb : Below w.heap.size w wb := by rw [hwb]; exact (Below.refl _ _).alloc (Nat.le_refl _) _
  have hblk : wb.heap[w.heap.size]? = some (.cells #[.int .i64 ((d : Int) + 1)] 3 (0, 0)) := by rw [hwb]; exact heap_alloc_new w _
  have cg : wb.cell? ⟨w.heap.size, 0, none⟩ = some (.int .i64 ((d : Int) + 1)) := (cell_of_row _ _ 0 _ 3 (0, 0) hblk).trans rfl
  have hgl : w.heap.size < wb.heap.size := (Array.getElem?_eq_some_iff.1 hblk).1
  have HK : Hid (KidsT D wb a n xs) := hk.kept hbb
  have HS : Hid (okS (d + 1) xs ↔ n ≤ 6 ∧ AllEl d xs n) := okS_succ d xs n hlen
  have qd : ((d : Int) + 1 == 0) = false := by simp; omega
  have HW : Hid (_ = _) := hwb
  clear hwb hblk hk
  go_enter Tryz.func37, Tryz.ntmps37
  go_upto_region 1 with fail
  rw [← HW.out]
  clear HW
  by_cases h6 : n ≤ 6
  case neg =>
    have q6 : ¬ (n : Int) ≤ 6 := by omega
    have HN : Hid (¬ okS (d + 1) xs) := fun h => h6 (HS.out.1 h).1
    clear h6
    go_wp2
    go_ret
    exact saysG_f HN.out hbb
  have q6 : (n : Int) ≤ 6 := by omega
  go_wp2_with fail
  refine (everySigner_any d hd ih D a n c xs w.heap.size _ hgl cg HK.out).mono ?_
  rintro e w3 ⟨b, rfl, HB, hb3⟩
  have hB := keepT hbb hb3
  clear cg
  cases b with
  | true =>
    have HP : Hid (okS (d + 1) xs) := HS.out.2 ⟨h6, HB.out.1 rfl⟩
    go_wp2
    go_ret
    exact saysG_t HP.out hB
  | false =>
    have HP : Hid (¬ okS (d + 1) xs) := fun h => by have := HB.out.2 (HS.out.1 h).2; cases this
    go_wp2
    go_ret
    exact saysG_f HP.out hB

theorem signersOk_two : SgOk 2 := signersOk_next 1 (by decide) (signersOk_next 0 (by decide) signersOk_zero)
def msgP (n : Nat) (xs : List ItT) : Prop := n ≤ 4000 ∧ okS 2 xs

set_option maxRecDepth 10000 in
set_option maxHeartbeats 2000000 in
theorem isRight_any (D : Nat) (am : Option Addr) (nn cm : Nat) (a : Option Addr) (n c : Nat) (xs : List ItT) (w : World) (hnn : nn ≤ 9223372036854775807) (hk : KidsT D w a n xs) :
    Calls Tryz.prog 24 #[.agg #[.slice am nn cm, .slice a n c]] w (SaysG (msgP nn xs) w) := by
  obtain ⟨wb, hwb⟩ : ∃ wb, wb = w.alloc (.cells #[.slice am nn cm, .slice a n c] 34) := ⟨_, rfl⟩
  have hbb : Below w.heap.size w wb := by rw [hwb]; exact (Below.refl _ _).alloc (Nat.le_refl _) _
  have hblk : wb.heap[w.heap.size]? = some (.cells #[.slice am nn cm, .slice a n c] 34 (0, 0)) := by rw [hwb]; exact heap_alloc_new w _
  obtain ⟨c0, c1⟩ := cells2m hblk
  have HK : Hid (KidsT D wb a n xs) := hk.kept hbb
  have HW : Hid (_ = _) := hwb
  clear hwb hblk hk
  go_enter Tryz.func24, Tryz.ntmps24
  go_upto_region 1 with fail
  rw [← HW.out]
  clear HW
  by_cases h1 : nn ≤ 4000
  case neg =>
    have q1 : ¬ (nn : Int) ≤ 4000 := by omega
    have HN : Hid (¬ msgP nn xs) := fun h => h1 h.1
    go_wp2
    go_ret
    exact saysG_f HN.out hbb
  have q1 : (nn : Int) ≤ 4000 := by omega
  go_wp2_with fail
  refine (signersOk_two 2 D a n c xs _ rfl HK.out).mono ?_
  rintro e w3 ⟨b, rfl, HB, hb3⟩
  have hB := keepT hbb hb3
  clear c0 c1
  cases b with
  | true =>
    have HP : Hid (msgP nn xs) := ⟨h1, HB.out.1 rfl⟩
    go_wp2
    go_ret
    exact saysG_t HP.out hB
  | false =>
    have HP : Hid (¬ msgP nn xs) := fun h => by have := HB.out.2 h.2; cases this
    go_wp2
    go_ret
    exact saysG_f HP.out hB

end Go.Proofs.YtkngnmnfkedfcaaGreat

set_option linter.unusedVariables false
namespace Go.Proofs.YtkngnmnfkedfcaaGreat
open Go.RowKit Go.Sort

set_option maxRecDepth 10000 in
set_option maxHeartbeats 4000000 in
theorem l17SignersOk_in (D : Nat) (a : Option Addr) (n c : Nat) (xs : List ItT) (w : World) (h : KidsT D w a n xs) :
    Calls Tryz.prog 32 #[.slice a n c, .bool true] w (SaysG (okS 1 xs) w) := by
  obtain ⟨D, rfl⟩ : ∃ D', D = D' + 1 := by
    cases D with
    | zero => exact h.elim
    | succ D => exact ⟨D, rfl⟩
  have H0 : Hid (KidsT (D + 1) w a n xs) := h
  have hn := h.2.1
  have HS : Hid (okS 1 xs ↔ n ≤ 6 ∧ AllEl 0 xs n) := okS_succ 0 xs n h.1
  clear h
  by_cases h6 : n ≤ 6
  case neg =>
    have q6 : (6 : Int) < (n : Int) := by omega
    have HN : Hid (¬ okS 1 xs) := fun h => h6 (HS.out.1 h).1
    go_enter Tryz.func32, Tryz.ntmps32
    go_wp2
    go_ret
    exact saysG_f HN.out (Below.refl _ _)
  have q6 : ¬ (6 : Int) < (n : Int) := by omega
  go_enter Tryz.func32, Tryz.ntmps32
  go_wp2
  clear q6
  go_loopw [5] (fun i wr => ∃ k : Nat, k ≤ n ∧ i = .int .i64 k ∧ Hid (AllEl 0 xs k) ∧ Below w.heap.size w wr) (fun i _ => n - (intOf i).toNat)
  case atStart => exact ⟨0, Nat.zero_le _, rfl, fun k hk => absurd hk (Nat.not_lt_zero _), Below.refl _ _⟩
  case round =>
    obtain ⟨k, hk, rfl, HE, hbr⟩ := hrel
    have hws := hbr.size
    by_cases hlt : k < n
    · obtain ⟨b, off, rfl, hlb, ab, nb, cb, ak, nk, ck, c0, c1, c2, c3, hr, hnil, hnb, hu, hkk⟩ := H0.out.2.2 k hlt
      obtain ⟨y, hy⟩ : ∃ y, y = xs.getD k default := ⟨_, rfl⟩
      rw [← hy] at c0 c1 hr hkk
      have HY : Hid (y = xs.getD k default) := hy
      have cc : ∀ j, wr.cell? ⟨b, j, none⟩ = w.cell? ⟨b, j, none⟩ := fun j => hbr.cell (p := ⟨b, j, none⟩) hlb
      rw [← cc] at c0 c1 c2 c3
      have hkni : (k : Int) < (n : Int) := by omega
      have hbw : b < wr.heap.size := by omega
      have HLN : Hid (y.sg.length = nb) := hr.len
      have HKK : Hid (KidsT D wr ak nk y.over) := hkk.kept hbr
      have HON : Hid (y.over.length = nk) := hkk.len.1
      have hnk := hkk.len.2
      obtain ⟨wy, hwy⟩ : ∃ wy, wy = wr.alloc (.cells #[.int .u64 y.ky, .int .i64 y.at2, .slice ab nb cb, .slice ak nk ck] 50) := ⟨_, rfl⟩
      have hby : Below wr.heap.size wr wy := by rw [hwy]; exact (Below.refl _ _).alloc (Nat.le_refl _) _
      have hblk : wy.heap[wr.heap.size]? = some (.cells #[.int .u64 y.ky, .int .i64 y.at2, .slice ab nb cb, .slice ak nk ck] 50 (0, 0)) := by rw [hwy]; exact heap_alloc_new _ _
      have HYB : Hid (_) := hblk
      have hBy : Below w.heap.size w wy := hbr.trans (hby.mono hws)
      have HBAD : Hid (¬ elP 0 y → ¬ okS 1 xs) := fun h1 h2 => h1 (by rw [HY.out]; exact (HS.out.1 h2).2 k hlt)
      have HNX : Hid (elP 0 y → AllEl 0 xs (k + 1)) := fun hp j hj => by
        by_cases e : j < k
        · exact HE.out j e
        · obtain rfl : j = k := by omega
          rw [← HY.out]; exact hp
      have HW : Hid (_ = _) := hwy
      clear cc hy hr hkk hwy hblk hu
      go_upto_region 7 with fail
      rw [← HW.out]
      clear HW c0 c1 c2 c3
      obtain ⟨c0, c1, c2, c3⟩ := cells4g HYB.out
      go_wp2_with fail
      refine (l10Tim_any y.at2 _).mono ?_
      rintro e w2 ⟨rfl, hw2⟩
      have hw2 := hw2.symm
      subst hw2
      by_cases h1 : timP y.at2
      case neg =>
        rw [decide_eq_false h1]
        have HP : Hid (¬ okS 1 xs) := HBAD.out (fun h => h1 h.1)
        clear h1
        go_wp2
        go_ret
        exact saysG_f HP.out hBy
      rw [decide_eq_true h1]
      have H1 : Hid (timP y.at2) := h1
      clear h1
      by_cases h2 : nb ≤ 500
      case neg =>
        have q2 : (500 : Int) < (nb : Int) := by omega
        have HP : Hid (¬ okS 1 xs) := HBAD.out (fun h => h2 (by have := h.2.1; rw [HLN.out] at this; exact this))
        go_wp2
        go_ret
        exact saysG_f HP.out hBy
      have q2 : ¬ (500 : Int) < (nb : Int) := by omega
      by_cases h3 : nk = 0
      case neg =>
        have q3 : (0 : Int) < (nk : Int) := by omega
        have HP : Hid (¬ okS 1 xs) := HBAD.out (fun h => h3 (HON.out.symm.trans h.2.2))
        go_wp2
        go_ret
        exact saysG_f HP.out hBy
      have q3 : ¬ (0 : Int) < (nk : Int) := by omega
      have HP : Hid (elP 0 y) := ⟨H1.out, by rw [HLN.out]; exact h2, by show y.over.length = 0; rw [HON.out]; exact h3⟩
      clear h3
      go_wp2
      go_roundw
      case rel => exact ⟨k + 1, by omega, by go_num, HNX.out HP.out, hBy⟩
      case measure => simp [intOf]; omega
    · obtain rfl : k = n := by omega
      have HP : Hid (okS 1 xs) := HS.out.2 ⟨h6, HE.out⟩
      go_wp2
      go_ret
      exact saysG_t HP.out hbr

set_option maxRecDepth 10000 in
set_option maxHeartbeats 4000000 in
theorem l17SignersOk_out (D : Nat) (a : Option Addr) (n c : Nat) (xs : List ItT) (w : World) (h : KidsT D w a n xs) :
    Calls Tryz.prog 32 #[.slice a n c, .bool false] w (SaysG (okS 2 xs) w) := by
  obtain ⟨D, rfl⟩ : ∃ D', D = D' + 1 := by
    cases D with
    | zero => exact h.elim
    | succ D => exact ⟨D, rfl⟩
  have H0 : Hid (KidsT (D + 1) w a n xs) := h
  have hn := h.2.1
  have HS : Hid (okS 2 xs ↔ n ≤ 6 ∧ AllEl 1 xs n) := okS_succ 1 xs n h.1
  clear h
  by_cases h6 : n ≤ 6
  case neg =>
    have q6 : (6 : Int) < (n : Int) := by omega
    have HN : Hid (¬ okS 2 xs) := fun h => h6 (HS.out.1 h).1
    go_enter Tryz.func32, Tryz.ntmps32
    go_wp2
    go_ret
    exact saysG_f HN.out (Below.refl _ _)
  have q6 : ¬ (6 : Int) < (n : Int) := by omega
  go_enter Tryz.func32, Tryz.ntmps32
  go_wp2
  clear q6
  go_loopw [5] (fun i wr => ∃ k : Nat, k ≤ n ∧ i = .int .i64 k ∧ Hid (AllEl 1 xs k) ∧ Below w.heap.size w wr) (fun i _ => n - (intOf i).toNat)
  case atStart => exact ⟨0, Nat.zero_le _, rfl, fun k hk => absurd hk (Nat.not_lt_zero _), Below.refl _ _⟩
  case round =>
    obtain ⟨k, hk, rfl, HE, hbr⟩ := hrel
    have hws := hbr.size
    by_cases hlt : k < n
    · obtain ⟨b, off, rfl, hlb, ab, nb, cb, ak, nk, ck, c0, c1, c2, c3, hr, hnil, hnb, hu, hkk⟩ := H0.out.2.2 k hlt
      obtain ⟨y, hy⟩ : ∃ y, y = xs.getD k default := ⟨_, rfl⟩
      rw [← hy] at c0 c1 hr hkk
      have HY : Hid (y = xs.getD k default) := hy
      have cc : ∀ j, wr.cell? ⟨b, j, none⟩ = w.cell? ⟨b, j, none⟩ := fun j => hbr.cell (p := ⟨b, j, none⟩) hlb
      rw [← cc] at c0 c1 c2 c3
      have hkni : (k : Int) < (n : Int) := by omega
      have hbw : b < wr.heap.size := by omega
      have HLN : Hid (y.sg.length = nb) := hr.len
      have HKK : Hid (KidsT D wr ak nk y.over) := hkk.kept hbr
      have HON : Hid (y.over.length = nk) := hkk.len.1
      have hnk := hkk.len.2
      obtain ⟨wy, hwy⟩ : ∃ wy, wy = wr.alloc (.cells #[.int .u64 y.ky, .int .i64 y.at2, .slice ab nb cb, .slice ak nk ck] 50) := ⟨_, rfl⟩
      have hby : Below wr.heap.size wr wy := by rw [hwy]; exact (Below.refl _ _).alloc (Nat.le_refl _) _
      have hblk : wy.heap[wr.heap.size]? = some (.cells #[.int .u64 y.ky, .int .i64 y.at2, .slice ab nb cb, .slice ak nk ck] 50 (0, 0)) := by rw [hwy]; exact heap_alloc_new _ _
      have HYB : Hid (_) := hblk
      have hBy : Below w.heap.size w wy := hbr.trans (hby.mono hws)
      have HBAD : Hid (¬ elP 1 y → ¬ okS 2 xs) := fun h1 h2 => h1 (by rw [HY.out]; exact (HS.out.1 h2).2 k hlt)
      have HNX : Hid (elP 1 y → AllEl 1 xs (k + 1)) := fun hp j hj => by
        by_cases e : j < k
        · exact HE.out j e
        · obtain rfl : j = k := by omega
          rw [← HY.out]; exact hp
      have HW : Hid (_ = _) := hwy
      clear cc hy hr hkk hwy hblk hu
      go_upto_region 7 with fail
      rw [← HW.out]
      clear HW c0 c1 c2 c3
      obtain ⟨c0, c1, c2, c3⟩ := cells4g HYB.out
      go_wp2_with fail
      refine (l10Tim_any y.at2 _).mono ?_
      rintro e w2 ⟨rfl, hw2⟩
      have hw2 := hw2.symm
      subst hw2
      by_cases h1 : timP y.at2
      case neg =>
        rw [decide_eq_false h1]
        have HP : Hid (¬ okS 2 xs) := HBAD.out (fun h => h1 h.1)
        clear h1
        go_wp2
        go_ret
        exact saysG_f HP.out hBy
      rw [decide_eq_true h1]
      have H1 : Hid (timP y.at2) := h1
      clear h1
      by_cases h2 : nb ≤ 500
      case neg =>
        have q2 : (500 : Int) < (nb : Int) := by omega
        have HP : Hid (¬ okS 2 xs) := HBAD.out (fun h => h2 (by have := h.2.1; rw [HLN.out] at this; exact this))
        go_wp2
        go_ret
        exact saysG_f HP.out hBy
      have q2 : ¬ (500 : Int) < (nb : Int) := by omega
      go_wp2_with fail
      refine (l17SignersOk_in D ak nk ck y.over _ (HKK.out.kept hby)).mono ?_
      rintro e w3 ⟨bb, rfl, HB, hb3⟩
      have hB3 : Below w.heap.size w w3 := hBy.trans (hb3.mono hBy.size)
      clear c0 c1 c2 c3
      cases bb with
      | false =>
        have HP : Hid (¬ okS 2 xs) := HBAD.out (fun h => by have := HB.out.2 h.2.2; cases this)
        go_wp2
        go_ret
        exact saysG_f HP.out hB3
      | true =>
        have HP : Hid (elP 1 y) := ⟨H1.out, by rw [HLN.out]; exact h2, HB.out.1 rfl⟩
        go_wp2
        go_roundw
        case rel => exact ⟨k + 1, by omega, by go_num, HNX.out HP.out, hB3⟩
        case measure => simp [intOf]; omega
    · obtain rfl : k = n := by omega
      have HP : Hid (okS 2 xs) := HS.out.2 ⟨h6, HE.out⟩
      go_wp2
      go_ret
      exact saysG_t HP.out hbr

set_option maxRecDepth 10000 in
set_option maxHeartbeats 2000000 in
theorem l17Ok_any (D : Nat) (am : Option Addr) (nn cm : Nat) (a : Option Addr) (n c : Nat) (xs : List ItT) (w : World) (hnn : nn ≤ 9223372036854775807) (hk : KidsT D w a n xs) :
    Calls Tryz.prog 19 #[.agg #[.slice am nn cm, .slice a n c]] w (SaysG (msgP nn xs) w) := by
  obtain ⟨wb, hwb⟩ : ∃ wb, wb = w.alloc (.cells #[.slice am nn cm, .slice a n c] 34) := ⟨_, rfl⟩
  have hbb : Below w.heap.size w wb := by rw [hwb]; exact (Below.refl _ _).alloc (Nat.le_refl _) _
  have hblk : wb.heap[w.heap.size]? = some (.cells #[.slice am nn cm, .slice a n c] 34 (0, 0)) := by rw [hwb]; exact heap_alloc_new w _
  obtain ⟨c0, c1⟩ := cells2m hblk
  have HK : Hid (KidsT D wb a n xs) := hk.kept hbb
  have HW : Hid (_ = _) := hwb
  clear hwb hblk hk
  go_enter Tryz.func19, Tryz.ntmps19
  go_upto_region 1 with fail
  rw [← HW.out]
  clear HW
  by_cases h1 : nn ≤ 4000
  case neg =>
    have q1 : ¬ (nn : Int) ≤ 4000 := by omega
    have HN : Hid (¬ msgP nn xs) := fun h => h1 h.1
    go_wp2
    go_ret
    exact saysG_f HN.out hbb
  have q1 : (nn : Int) ≤ 4000 := by omega
  go_wp2_with fail
  refine (l17SignersOk_out D a n c xs _ HK.out).mono ?_
  rintro e w3 ⟨b, rfl, HB, hb3⟩
  have hB := keepT hbb hb3
  clear c0 c1
  cases b with
  | true =>
    have HP : Hid (msgP nn xs) := ⟨h1, HB.out.1 rfl⟩
    go_wp2
    go_ret
    exact saysG_t HP.out hB
  | false =>
    have HP : Hid (¬ msgP nn xs) := fun h => by have := HB.out.2 h.2; cases this
    go_wp2
    go_ret
    exact saysG_f HP.out hB

end Go.Proofs.YtkngnmnfkedfcaaGreat

namespace Go.Proofs.YtkngnmnfkedfcaaGreat
open Go.RowKit

def flPu (ps : List (Int × Int × Int)) : List Value := ps.flatMap fun p => [.int .i64 p.1, .int .u64 p.2.1, .int .i64 p.2.2]
theorem flPu_cons (p : Int × Int × Int) (r : List (Int × Int × Int)) : flPu (p :: r) = Value.int .i64 p.1 :: .int .u64 p.2.1 :: .int .i64 p.2.2 :: flPu r := rfl
theorem flPu_append (a b : List (Int × Int × Int)) : flPu (a ++ b) = flPu a ++ flPu b := by simp [flPu, List.flatMap_append]
theorem flPu_len (ps : List (Int × Int × Int)) : (flPu ps).length = ps.length * 3 := by
  induction ps with
  | nil => rfl
  | cons p r ih => rw [flPu_cons]; simp [ih]; omega
theorem flPu_get (ps : List (Int × Int × Int)) : ∀ k, k < ps.length → (flPu ps)[k * 3]? = some (.int .i64 (ps.getD k (0, 0, 0)).1) ∧ (flPu ps)[k * 3 + 1]? = some (.int .u64 (ps.getD k (0, 0, 0)).2.1) ∧ (flPu ps)[k * 3 + 2]? = some (.int .i64 (ps.getD k (0, 0, 0)).2.2) := by
  induction ps with
  | nil => intro k h; simp at h
  | cons p r ih =>
    intro k h
    cases k with
    | zero => simp [flPu_cons]
    | succ k =>
      have := ih k (by simpa using h)
      rw [flPu_cons, show (k + 1) * 3 = k * 3 + 1 + 1 + 1 by omega]
      simpa using this
theorem flPu_set (ps : List (Int × Int × Int)) : ∀ k (u : Int × Int × Int), k < ps.length → (((flPu ps).set (k * 3) (.int .i64 u.1)).set (k * 3 + 1) (.int .u64 u.2.1)).set (k * 3 + 2) (.int .i64 u.2.2) = flPu (ps.set k u) := by
  induction ps with
  | nil => intro k u h; simp at h
  | cons p r ih =>
    intro k u h
    cases k with
    | zero => simp [flPu_cons]
    | succ k =>
      have := ih k u (by simpa using h)
      rw [flPu_cons, show (k + 1) * 3 = k * 3 + 1 + 1 + 1 by omega]
      simp only [List.set_cons_succ, flPu_cons]
      rw [this]
theorem flPu_one (ps : List (Int × Int × Int)) : ∀ u ∈ flPu ps, u.oneCell' = true := by
  induction ps with
  | nil => intro u hu; simp [flPu] at hu
  | cons p r ih =>
    intro u hu
    rw [flPu_cons] at hu
    simp only [List.mem_cons] at hu
    rcases hu with rfl | rfl | rfl | hu
    · rfl
    · rfl
    · rfl
    · exact ih u hu
def UPu (ps : List (Int × Int × Int)) : Prop := ∀ k, U64 (ps.getD k (0, 0, 0)).2.1
structure RowPu (w : World) (a : Option Addr) (n : Nat) (ps : List (Int × Int × Int)) : Prop where
  len : ps.length = n
  get : ∀ k, k < n → ∃ b off, a = some ⟨b, off, none⟩ ∧ b < w.heap.size ∧ w.cell? ⟨b, off + k * 3, none⟩ = some (.int .i64 (ps.getD k (0, 0, 0)).1) ∧ w.cell? ⟨b, off + k * 3 + 1, none⟩ = some (.int .u64 (ps.getD k (0, 0, 0)).2.1) ∧ w.cell? ⟨b, off + k * 3 + 2, none⟩ = some (.int .i64 (ps.getD k (0, 0, 0)).2.2)
  rng : UPu ps
theorem RowPu.kept {w w' : World} {a : Option Addr} {n : Nat} {ps : List (Int × Int × Int)} (h : RowPu w a n ps) (hb : Below w.heap.size w w') : RowPu w' a n ps := by
  refine ⟨h.len, fun k hk => ?_, h.rng⟩
  obtain ⟨b, off, ha, hlt, h0, h1, h2⟩ := h.get k hk
  exact ⟨b, off, ha, Nat.lt_of_lt_of_le hlt hb.size, (hb.cell (p := ⟨b, off + k * 3, none⟩) hlt).trans h0, (hb.cell (p := ⟨b, off + k * 3 + 1, none⟩) hlt).trans h1, (hb.cell (p := ⟨b, off + k * 3 + 2, none⟩) hlt).trans h2⟩
theorem RowPu.in_ {w : World} {a : Option Addr} {n : Nat} {ps : List (Int × Int × Int)} (h : RowPu w a n ps) : In a n 0 w.heap.size := by
  intro b off ha hn
  obtain ⟨b', off', ha', hb, _⟩ := h.get 0 hn
  rw [ha'] at ha
  simp at ha
  omega
theorem RowPu.touch {lo hi p q : Nat} {w w' : World} {a : Option Addr} {n : Nat} {ps : List (Int × Int × Int)} (h : RowPu w a n ps) (hi' : In a n p q) (hd : q ≤ lo ∨ hi ≤ p) (ht : Touch lo hi w w') : RowPu w' a n ps := by
  refine ⟨h.len, fun k hk => ?_, h.rng⟩
  obtain ⟨b, off, ha, hlt, h0, h1, h2⟩ := h.get k hk
  have hp := hi' b off ha (by omega)
  exact ⟨b, off, ha, Nat.lt_of_lt_of_le hlt ht.size, (World.cell?_of_block (a := ⟨b, off + k * 3, none⟩) (ht.block b hlt (by omega))).trans h0, (World.cell?_of_block (a := ⟨b, off + k * 3 + 1, none⟩) (ht.block b hlt (by omega))).trans h1, (World.cell?_of_block (a := ⟨b, off + k * 3 + 2, none⟩) (ht.block b hlt (by omega))).trans h2⟩
structure OwnPu (B : Nat) (w : World) (a : Option Addr) (n cap : Nat) (ps : List (Int × Int × Int)) : Prop where
  row : w.ownsRow B 55 3 (.slice a n cap) n (flPu ps)
  rng : UPu ps
theorem OwnPu.len {B : Nat} {w : World} {a : Option Addr} {n cap : Nat} {ps : List (Int × Int × Int)} (h : OwnPu B w a n cap ps) : ps.length = n := by
  have := h.row.1
  rw [flPu_len] at this
  omega
theorem OwnPu.shape {B : Nat} {w : World} {a : Option Addr} {n cap : Nat} {ps : List (Int × Int × Int)} (h : OwnPu B w a n cap ps) (hn : 0 < n) : ∃ g, a = some ⟨g, 0, none⟩ ∧ B ≤ g ∧ g < w.heap.size := by
  rcases h.row.2 with ⟨_, h0⟩ | ⟨g, cap', cur, hv, hb, hg, _⟩
  · omega
  · simp only [Value.slice.injEq] at hv
    exact ⟨g, hv.1, hb, (Array.getElem?_eq_some_iff.1 hg).1⟩
theorem OwnPu.in_ {B : Nat} {w : World} {a : Option Addr} {n cap : Nat} {ps : List (Int × Int × Int)} (h : OwnPu B w a n cap ps) : In a n B w.heap.size := by
  intro b off ha hn
  obtain ⟨g, hg, h1, h2⟩ := h.shape hn
  rw [hg] at ha
  simp at ha
  omega
theorem OwnPu.toRow {B : Nat} {w : World} {a : Option Addr} {n cap : Nat} {ps : List (Int × Int × Int)} (h : OwnPu B w a n cap ps) : RowPu w a n ps := by
  refine ⟨h.len, fun k hk => ?_, h.rng⟩
  obtain ⟨g, rfl, _, hg⟩ := h.shape (by omega)
  have hf := flPu_get ps k (by rw [h.len]; exact hk)
  exact ⟨g, 0, rfl, hg, by rw [Nat.zero_add, h.row.cellAt _ (by omega)]; exact hf.1, by rw [Nat.zero_add, h.row.cellAt _ (by omega)]; exact hf.2.1, by rw [Nat.zero_add, h.row.cellAt _ (by omega)]; exact hf.2.2⟩
theorem OwnPu.kept {B : Nat} {w w' : World} {a : Option Addr} {n cap : Nat} {ps : List (Int × Int × Int)} (h : OwnPu B w a n cap ps) (hb : Below w.heap.size w w') : OwnPu B w' a n cap ps := ⟨ownsRow_below h.row hb, h.rng⟩
theorem OwnPu.mono {B B' : Nat} {w : World} {a : Option Addr} {n cap : Nat} {ps : List (Int × Int × Int)} (h : OwnPu B w a n cap ps) (hB : B' ≤ B) : OwnPu B' w a n cap ps :=
  ⟨⟨h.row.1, by rcases h.row.2 with h | ⟨g, cap, cur, hv, hb, r⟩; exact .inl h; exact .inr ⟨g, cap, cur, hv, by omega, r⟩⟩, h.rng⟩
theorem OwnPu.touch {lo hi p q B : Nat} {w w' : World} {a : Option Addr} {n cap : Nat} {ps : List (Int × Int × Int)} (h : OwnPu B w a n cap ps) (hi' : In a n p q) (hd : q ≤ lo ∨ hi ≤ p) (ht : Touch lo hi w w') (hn : 0 < n) : OwnPu B w' a n cap ps := by
  refine ⟨⟨h.row.1, ?_⟩, h.rng⟩
  rcases h.row.2 with hn' | ⟨g, cap', cur, hv, hbb, hgg, rest⟩
  · exact .inl hn'
  · simp only [Value.slice.injEq] at hv
    obtain ⟨rfl, _, rfl⟩ := hv
    have hp := hi' g 0 rfl hn
    exact .inr ⟨g, cap, cur, rfl, hbb, (ht.block g (Array.getElem?_eq_some_iff.1 hgg).1 (by omega)).trans hgg, rest⟩
theorem OwnPu.nil {B : Nat} {w : World} {a : Option Addr} {n cap : Nat} {ps : List (Int × Int × Int)} (h : OwnPu B w a n cap ps) : a = none → cap = 0 := by
  intro e
  subst e
  rcases h.row.2 with ⟨h0, _⟩ | ⟨g, cap', cur, hv, _⟩
  · simp only [Value.slice.injEq] at h0
    exact h0.2.2
  · simp at hv
theorem UPu.nil : UPu [] := by intro k; simp [U64]
theorem UPu.append {a b : List (Int × Int × Int)} (h : UPu a) (k : UPu b) : UPu (a ++ b) := by
  intro i
  by_cases hi : i < a.length
  · have e : (a ++ b).getD i (0, 0, 0) = a.getD i (0, 0, 0) := by rw [List.getD_eq_getElem?_getD, List.getElem?_append_left hi, ← List.getD_eq_getElem?_getD]
    rw [e]; exact h i
  · have e : (a ++ b).getD i (0, 0, 0) = b.getD (i - a.length) (0, 0, 0) := by simp [List.getElem?_append_right (Nat.le_of_not_lt hi)]
    rw [e]; exact k _
theorem UPu.set {a : List (Int × Int × Int)} (h : UPu a) (i : Nat) (u : Int × Int × Int) (hu : U64 u.2.1) : UPu (a.set i u) := by
  intro k
  by_cases e : i = k
  · subst e
    by_cases hl : i < a.length
    · have e2 : (a.set i u).getD i (0, 0, 0) = u := by simp [hl]
      rw [e2]; exact hu
    · have e2 : (a.set i u).getD i (0, 0, 0) = a.getD i (0, 0, 0) := by simp [List.set_eq_of_length_le (Nat.le_of_not_lt hl)]
      rw [e2]; exact h i
  · have e2 : (a.set i u).getD k (0, 0, 0) = a.getD k (0, 0, 0) := by simp [List.getElem?_set_ne e]
    rw [e2]; exact h k
theorem UPu.one {u : Int × Int × Int} (hu : U64 u.2.1) : UPu [u] := by
  intro k
  cases k with
  | zero => exact hu
  | succ k => simp [U64]
theorem ownPu_none (B : Nat) (w : World) : OwnPu B w none 0 0 [] := ⟨World.ownsRow_nil _ _ _ _, UPu.nil⟩
theorem ownPu_appended {B : Nat} {w : World} {v : Value} {m : Nat} {xs ys : List (Int × Int × Int)} (hx : UPu xs) (hy : UPu ys) (h : w.ownsRow B 55 3 v m (flPu xs ++ flPu ys)) : ∃ a cap, v = .slice a m cap ∧ OwnPu B w a m cap (xs ++ ys) := by
  rw [← flPu_append] at h
  rcases h.2 with ⟨rfl, rfl⟩ | ⟨g, cap, cur, rfl, _⟩
  · exact ⟨_, _, rfl, h, hx.append hy⟩
  · exact ⟨_, _, rfl, h, hx.append hy⟩
theorem Tryz.infoPu : (Tryz.prog.info? 55).map (fun i => (i.zero, i.size, i.bytes)) = some (some (.agg #[.int .i64 0, .int .u64 0, .int .i64 0]), 3, 24) := by kernel_rfl
theorem cell_onePu (w : World) (p : Int × Int × Int) : ∀ jj uu, (flPu [p])[jj]? = some uu → (w.alloc (.cells #[.int .i64 p.1, .int .u64 p.2.1, .int .i64 p.2.2] 55)).cell? ((⟨w.heap.size, 0, none⟩ : Addr).add jj) = some uu := by
  intro jj uu hju
  rw [Addr.add_lit, Nat.zero_add, cell_of_row _ w.heap.size jj _ 55 _ (heap_alloc_new w _), ← hju]
  simp [flPu]
theorem OwnPu.store {B : Nat} {w : World} {g n cap : Nat} {ps : List (Int × Int × Int)} (h : OwnPu B w (some ⟨g, 0, none⟩) n cap ps) (k : Nat) (hk : k < n) (u : Int × Int × Int) (hu : U64 u.2.1) :
    OwnPu B (((w.setCell ⟨g, k * 3, none⟩ (.int .i64 u.1)).setCell ⟨g, k * 3 + 1, none⟩ (.int .u64 u.2.1)).setCell ⟨g, k * 3 + 2, none⟩ (.int .i64 u.2.2)) (some ⟨g, 0, none⟩) n cap (ps.set k u) := by
  refine ⟨?_, h.rng.set k u hu⟩
  have := (((h.row.stored (k * 3) (.int .i64 u.1)).1.stored (k * 3 + 1) (.int .u64 u.2.1)).1.stored (k * 3 + 2) (.int .i64 u.2.2)).1
  rwa [flPu_set ps k u (by rw [h.len]; exact hk)] at this
def aggPu (p : Int × Int × Int) : Value := .agg #[.int .i64 p.1, .int .u64 p.2.1, .int .i64 p.2.2]

set_option maxRecDepth 10000 in
set_option maxHeartbeats 400000 in
theorem eqPu_same (p : Int × Int × Int) (w : World) :
    Calls Tryz.prog 28 #[aggPu p, aggPu p] w fun e w' => e = .returned (.bool true) ∧ Below w.heap.size w w' := by
  obtain ⟨a0, a1, a2⟩ := p
  unfold aggPu
  have z0 : (a0 != a0) = false := by simp
  have z1 : (a1 != a1) = false := by simp
  have z2 : (a2 != a2) = false := by simp
  go_enter Tryz.func28, Tryz.ntmps28
  go_wp2
  go_ret
  exact ⟨rfl, ((Below.refl _ _).alloc (Nat.le_refl _) _).alloc (by simp) _⟩

set_option maxRecDepth 10000 in
set_option maxHeartbeats 2000000 in
theorem eqPuS_same (a b : Option Addr) (n ca cb : Nat) (ps : List (Int × Int × Int)) (w : World) (hx : RowPu w a n ps) (hy : RowPu w b n ps) (hn : n ≤ 9223372036854775807) :
    Calls Tryz.prog 12 #[.slice a n ca, .slice b n cb] w fun e w' => e = .returned (.bool true) ∧ Below w.heap.size w w' := by
  have HX : Hid (RowPu w a n ps) := hx
  have HY : Hid (RowPu w b n ps) := hy
  clear hx hy
  have zn : ((n : Int) != (n : Int)) = false := by simp
  go_enter Tryz.func12, Tryz.ntmps12
  go_wp2
  go_loopw [5] (fun i wr => ∃ k : Nat, k ≤ n ∧ i = .int .i64 k ∧ Below w.heap.size w wr) (fun i _ => n - (intOf i).toNat)
  case atStart => exact ⟨0, Nat.zero_le _, rfl, Below.refl _ _⟩
  case round =>
    obtain ⟨k, hk, rfl, hbr⟩ := hrel
    by_cases hlt : k < n
    · obtain ⟨b1, o1, rfl, hl1, x0, x1, x2⟩ := (HX.out.kept hbr).get k hlt
      obtain ⟨b2, o2, rfl, hl2, y0, y1, y2⟩ := (HY.out.kept hbr).get k hlt
      obtain ⟨q, hq⟩ : ∃ q, q = ps.getD k (0, 0, 0) := ⟨_, rfl⟩
      rw [← hq] at x0 x1 x2 y0 y1 y2
      clear hq
      have hlti : (k : Int) < (n : Int) := by omega
      go_wp2_with fail
      have EQ : Hid (Calls Tryz.prog 28 #[aggPu q, aggPu q] wr.drew fun e w' => e = .returned (.bool true) ∧ Below wr.drew.heap.size wr.drew w') := eqPu_same q wr.drew
      unfold aggPu at EQ
      have e0 : wr.drew.cell? ⟨b1, o1 + k * 3, none⟩ = some (.int .i64 q.1) := x0
      go_region_with ((go_at_call 28; refine Calls.mono EQ.out ?_; rintro e w2 ⟨rfl, hb2⟩))
      all_goals
        go_wp2
        go_roundw
        case rel => exact ⟨k + 1, by omega, by go_num, keepT hbr.drew hb2⟩
        case measure => simp [intOf]; omega
    · go_wp2
      go_ret
      exact ⟨rfl, hbr⟩

def Pre_Pu (vs : List Value) (ps : List (Int × Int × Int)) (k : Nat) : Prop := ∀ j, j < k → vs[j * 3]? = some (.int .i64 (ps.getD j (0, 0, 0)).1) ∧ vs[j * 3 + 1]? = some (.int .u64 (ps.getD j (0, 0, 0)).2.1) ∧ vs[j * 3 + 2]? = some (.int .i64 (ps.getD j (0, 0, 0)).2.2)
theorem Pre_Pu.set {vs : List Value} {ps : List (Int × Int × Int)} {k : Nat} (h : Pre_Pu vs ps k) (hv : k * 3 + 2 < vs.length) : Pre_Pu (((vs.set (k * 3) (.int .i64 (ps.getD k (0, 0, 0)).1)).set (k * 3 + 1) (.int .u64 (ps.getD k (0, 0, 0)).2.1)).set (k * 3 + 2) (.int .i64 (ps.getD k (0, 0, 0)).2.2)) ps (k + 1) := by
  intro j hj
  by_cases e : j = k
  · subst e
    exact ⟨by simp [List.getElem?_set]; omega, by simp [List.getElem?_set]; omega, by simp [List.getElem?_set]; omega⟩
  · have := h j (by omega)
    exact ⟨by simp only [List.getElem?_set]; rw [if_neg (by omega)]; rw [if_neg (by omega)]; rw [if_neg (by omega)]; exact this.1, by simp only [List.getElem?_set]; rw [if_neg (by omega)]; rw [if_neg (by omega)]; rw [if_neg (by omega)]; exact this.2.1, by simp only [List.getElem?_set]; rw [if_neg (by omega)]; rw [if_neg (by omega)]; rw [if_neg (by omega)]; exact this.2.2⟩
theorem Pre_Pu.all {vs : List Value} {ps : List (Int × Int × Int)} {n : Nat} (h : Pre_Pu vs ps n) (hv : vs.length = n * 3) (hl : ps.length = n) : vs = flPu ps := by
  apply List.ext_getElem?
  intro i
  by_cases hi : i < n * 3
  · have hk : i / 3 < n := by omega
    have h1 := h (i / 3) hk
    have h2 := flPu_get ps (i / 3) (by omega)
    rcases (show i = i / 3 * 3 ∨ i = i / 3 * 3 + 1 ∨ i = i / 3 * 3 + 2 by omega) with e | e | e
    · rw [e, h1.1, h2.1]
    · rw [e, h1.2.1, h2.2.1]
    · rw [e, h1.2.2, h2.2.2]
  · rw [List.getElem?_eq_none (by omega), List.getElem?_eq_none (by rw [flPu_len]; omega)]

theorem results_Pu {fn : Func} {t : Tmp} (h : fn.results = #[.cell t 55]) (tmps : Array Value) (g : Nat) (ht : tmps.getD t undef = .pointer (some ⟨g, 0, none⟩)) (w : World) (p : Int × Int × Int)
    (hb : w.heap[g]? = some (.cells #[.int .i64 p.1, .int .u64 p.2.1, .int .i64 p.2.2] 55 (0, 0))) : (results fn tmps).run Tryz.prog w = .ok (aggPu p) w := by
  have d0 : w.cell? ⟨g, 0, none⟩ = some (.int .i64 p.1) := (cell_of_row _ g 0 _ 55 (0, 0) hb).trans rfl
  have d1 : w.cell? ⟨g, 1, none⟩ = some (.int .u64 p.2.1) := (cell_of_row _ g 1 _ 55 (0, 0) hb).trans rfl
  have d2 : w.cell? ⟨g, 2, none⟩ = some (.int .i64 p.2.2) := (cell_of_row _ g 2 _ 55 (0, 0) hb).trans rfl
  clear hb
  have ht' : tmps[t]?.getD undef = .pointer (some ⟨g, 0, none⟩) := by rw [← ht]; simp
  simp [results, h, go_sem, ht', d0, d1, d2, aggPu]

set_option maxRecDepth 10000 in
set_option maxHeartbeats 1000000 in
theorem toPu_any (p : Int × Int × Int) (w : World) :
    Calls Tryz.prog 23 #[aggPu p] w fun e w' => e = .returned (aggPu p) ∧ Below w.heap.size w w' := by
  have s1 : (w.alloc (.cells #[.int .i64 p.1, .int .u64 p.2.1, .int .i64 p.2.2] 57)).heap.size = w.heap.size + 1 := by simp
  have HB1 : Hid (((((w.alloc (.cells #[.int .i64 p.1, .int .u64 p.2.1, .int .i64 p.2.2] 57)).alloc (.cells #[.int .i64 p.1, .int .u64 p.2.1, .int .i64 p.2.2] 55)).alloc (.cells #[.int .i64 p.1, .int .u64 p.2.1, .int .i64 p.2.2] 55))).heap[w.heap.size + 1]? = some (.cells #[.int .i64 p.1, .int .u64 p.2.1, .int .i64 p.2.2] 55)) := by
    show _ = _
    exact (heap_alloc_old _ _ (by simp)).trans (by rw [← s1]; exact heap_alloc_new _ _)
  clear s1
  rw [aggPu]
  go_enter Tryz.func23, Tryz.ntmps23
  go_wp2
  try simp only [Exit.inBlock, Exit.then]
  exact bodyPost_ret (results_Pu rfl _ (w.heap.size + 1) rfl _ p HB1.out) rfl ⟨rfl, (((Below.refl _ _).alloc (Nat.le_refl _) _).alloc (by simp) _).alloc (by simp; omega) _⟩

set_option maxRecDepth 10000 in
set_option maxHeartbeats 2000000 in
theorem toPuS_any (a : Option Addr) (n c : Nat) (ps : List (Int × Int × Int)) (w : World) (h : RowPu w a n ps) (hn : n ≤ 1048576) :
    Calls Tryz.prog 8 #[.slice a n c] w fun e w' => ∃ ar, e = .returned (.slice ar n n) ∧ OwnPu w.heap.size w' ar n n ps ∧ Below w.heap.size w w' := by
  obtain ⟨i0, hi, hz0, hz1, hz2⟩ := info_parts Tryz.infoPu
  have H0 : Hid (RowPu w a n ps) := h
  have HL : Hid (ps.length = n) := h.len
  have HR : Hid (UPu ps) := h.rng
  clear h
  go_enter Tryz.func8, Tryz.ntmps8
  go_wp2_with (first | (at_make; refine wpList_make_full _ rfl _ _ 36 rfl w.heap.size 55 i0 _ 3 Tryz.underlying36 hi hz0 hz1 _ _ _ _ n rfl rfl rfl rfl (by rw [hz2]; omega) (by unfold maxLen; omega) (by exact Nat.le_refl _) ?_; intro w2 hown hgrow))
  have hbl : Below w.heap.size w w2 := (Below.refl _ _).grown hgrow (Nat.le_refl _) (by simp)
  clear hgrow hi hz0 hz1 hz2
  go_loopw [4] (fun i wr => ∃ k : Nat, k ≤ n ∧ i = .int .i64 k ∧ (∃ vs, wr.ownsRow w.heap.size 55 3 (.slice (some ⟨w.heap.size, 0, none⟩) n n) n vs ∧ Pre_Pu vs ps k) ∧ Below w.heap.size w wr) (fun i _ => n - (intOf i).toNat)
  case atStart => exact ⟨0, Nat.zero_le _, rfl, ⟨_, hown, fun j hj => absurd hj (Nat.not_lt_zero _)⟩, hbl⟩
  case round =>
    obtain ⟨k, hk, rfl, ⟨vs, hor, hpre⟩, hbr⟩ := hrel
    by_cases hkn : k < n
    · obtain ⟨b, off, rfl, hlb, x0, x1, x2⟩ := (H0.out.kept hbr).get k hkn
      obtain ⟨p, hp⟩ : ∃ p, p = ps.getD k (0, 0, 0) := ⟨_, rfl⟩
      rw [← hp] at x0 x1 x2
      have HP : Hid (ps.getD k (0, 0, 0) = p) := hp.symm
      have hkni : (k : Int) < (n : Int) := by omega
      have HPRE : Hid (Pre_Pu vs ps k) := hpre
      have HOR : Hid (wr.ownsRow w.heap.size 55 3 (.slice (some ⟨w.heap.size, 0, none⟩) n n) n vs) := hor
      have hws := hbr.size
      have TO := fun W => toPu_any p W
      unfold aggPu at TO
      clear hp hpre hor hown hbl
      go_wp2_with fail
      refine (TO _).mono ?_
      rintro e w3 ⟨rfl, hb3⟩
      have hor3 := ownsRow_below HOR.out hb3
      have hvl : vs.length = n * 3 := hor3.1
      have f0 : w3.frozen? ⟨w.heap.size, k * 3, none⟩ = false := hor3.frozenAt _
      have f1 : w3.frozen? ⟨w.heap.size, k * 3 + 1, none⟩ = false := hor3.frozenAt _
      have f2 : w3.frozen? ⟨w.heap.size, k * 3 + 2, none⟩ = false := hor3.frozenAt _
      obtain ⟨y0, hy0⟩ : ∃ y, w3.cell? ⟨w.heap.size, k * 3, none⟩ = some y := ⟨_, (hor3.cellAt _ (by omega)).trans (List.getElem?_eq_getElem (by omega))⟩
      obtain ⟨y1, hy1⟩ : ∃ y, w3.cell? ⟨w.heap.size, k * 3 + 1, none⟩ = some y := ⟨_, (hor3.cellAt _ (by omega)).trans (List.getElem?_eq_getElem (by omega))⟩
      obtain ⟨y2, hy2⟩ : ∃ y, w3.cell? ⟨w.heap.size, k * 3 + 2, none⟩ = some y := ⟨_, (hor3.cellAt _ (by omega)).trans (List.getElem?_eq_getElem (by omega))⟩
      have hP := HPRE.out.set (by omega)
      rw [HP.out] at hP
      have hO := (((hor3.stored (k * 3) (.int .i64 p.1)).1.stored (k * 3 + 1) (.int .u64 p.2.1)).1.stored (k * 3 + 2) (.int .i64 p.2.2)).1
      have hB : Below w.heap.size w (((w3.setCell ⟨w.heap.size, k * 3, none⟩ (.int .i64 p.1)).setCell ⟨w.heap.size, k * 3 + 1, none⟩ (.int .u64 p.2.1)).setCell ⟨w.heap.size, k * 3 + 2, none⟩ (.int .i64 p.2.2)) := ((((keepT hbr hb3).setCell (Nat.le_refl _) _).setCell (Nat.le_refl _) _).setCell (Nat.le_refl _) _)
      have FIN : Hid (_ ∧ _ ∧ _) := ⟨hO, hP, hB⟩
      clear hP hO hB hor3 hb3 hbr HPRE HOR TO
      go_wp2
      go_roundw
      case rel => exact ⟨k + 1, by omega, by go_num, ⟨_, FIN.out.1, FIN.out.2.1⟩, FIN.out.2.2⟩
      case measure => simp [intOf]; omega
    · obtain rfl : k = n := by omega
      have hvs := hpre.all hor.1 HL.out
      rw [hvs] at hor
      have FIN : Hid (OwnPu w.heap.size wr (some ⟨w.heap.size, 0, none⟩) k k ps ∧ Below w.heap.size w wr) := ⟨⟨hor, HR.out⟩, hbr⟩
      clear hor hpre hbr hvs hown hbl
      go_wp2
      go_ret
      exact ⟨_, rfl, FIN.out.1, FIN.out.2⟩

set_option maxRecDepth 10000 in
set_option maxHeartbeats 1000000 in
theorem szPuS_any (a : Option Addr) (n c : Nat) (l : Int) (w : World) (hn : n ≤ 9223372036854775807) (h0 : 0 ≤ l) (h1 : l ≤ 1048576) :
    Calls Tryz.prog 5 #[.slice a n c, .int .i64 l] w fun e w' => e = .returned (.int .i64 (if l < n then -1 else l - n)) ∧ w' = w := by
  by_cases hlt : l < n
  · have h' : l - (n : Int) < 0 := by omega
    rw [if_pos hlt]
    go_enter Tryz.func5, Tryz.ntmps5
    go_wp2
    go_ret
    exact ⟨rfl, rfl⟩
  · have h' : 0 ≤ l - (n : Int) := by omega
    rw [if_neg hlt]
    go_enter Tryz.func5, Tryz.ntmps5
    go_wp2
    go_ret
    exact ⟨rfl, rfl⟩

theorem touch_onePu {p q : Nat} (w : World) (g j : Nat) (u : Value) (h1 : p ≤ g) (h2 : g < q) : Touch p q w (w.setCell ⟨g, j, none⟩ u) :=
  ⟨rfl, rfl, rfl, by simp, fun k _ hk => heap_setCell_other w ⟨g, j, none⟩ k u (by simp; omega)⟩
def mkPu (k i : Nat) : Int × Int × Int := (((k + 3 * i : Nat) : Int), ((k + 3 * i + 1 : Nat) : Int), ((k + 3 * i + 2 : Nat) : Int))
def marksPu (k n : Nat) : List (Int × Int × Int) := (List.range n).map (mkPu k)
def mkdPu (ps : List (Int × Int × Int)) (k j : Nat) : List (Int × Int × Int) := marksPu k j ++ ps.drop j
theorem mkdPu_zero (ps : List (Int × Int × Int)) (k : Nat) : mkdPu ps k 0 = ps := by simp [mkdPu, marksPu]
theorem mkdPu_all (ps : List (Int × Int × Int)) (k : Nat) : mkdPu ps k ps.length = marksPu k ps.length := by simp [mkdPu]
theorem mkdPu_set (ps : List (Int × Int × Int)) (k j : Nat) (h : j < ps.length) : (mkdPu ps k j).set j (mkPu k j) = mkdPu ps k (j + 1) := by
  unfold mkdPu
  rw [List.drop_eq_getElem_cons h, set_append_mid _ _ _ _ _ (by simp [marksPu]), show marksPu k (j + 1) = marksPu k j ++ [mkPu k j] by simp [marksPu, List.range_succ], List.append_assoc]
  rfl
theorem marksPu_get (k n i : Nat) (h : i < n) : (marksPu k n).getD i (0, 0, 0) = mkPu k i := by simp [marksPu, h]

set_option maxRecDepth 10000 in
set_option maxHeartbeats 2000000 in
theorem markPuS_any (B : Nat) (a : Option Addr) (n cap k : Nat) (ps : List (Int × Int × Int)) (w : World) (h : OwnPu B w a n cap ps) (hn : n ≤ 10000000) (hk : k ≤ 10000000) :
    Calls Tryz.prog 14 #[.slice a n cap, .int .i64 k] w fun e w' => e = .returned (.int .i64 (k + 3 * n : Nat)) ∧ OwnPu B w' a n cap (marksPu k n) ∧ ∀ p q, In a n p q → Touch p q w w' := by
  have HL : Hid (ps.length = n) := h.len
  have HO : Hid (OwnPu B w a n cap (mkdPu ps k 0)) := by show OwnPu _ _ _ _ _ _; rw [mkdPu_zero]; exact h
  clear h
  go_enter Tryz.func14, Tryz.ntmps14
  go_wp2
  go_loopw [1, 5] (fun kk i wr => ∃ j : Nat, j ≤ n ∧ i = .int .i64 j ∧ kk = .int .i64 (k + 3 * j : Nat) ∧ OwnPu B wr a n cap (mkdPu ps k j) ∧ (∀ p q, In a n p q → Touch p q w wr)) (fun _ i _ => n - (intOf i).toNat)
  case atStart => exact ⟨0, Nat.zero_le _, rfl, rfl, HO.out, fun p q _ => Touch.of_below (Below.refl _ _)⟩
  case round =>
    obtain ⟨j, hj, rfl, rfl, hor, htr⟩ := hrel
    by_cases hlt : j < n
    · obtain ⟨g, rfl, hg0, hg1⟩ := hor.shape (by omega)
      have hfl : (flPu (mkdPu ps k j)).length = n * 3 := hor.row.1
      have f0 : wr.frozen? ⟨g, j * 3, none⟩ = false := hor.row.frozenAt _
      have f1 : wr.frozen? ⟨g, j * 3 + 1, none⟩ = false := hor.row.frozenAt _
      have f2 : wr.frozen? ⟨g, j * 3 + 2, none⟩ = false := hor.row.frozenAt _
      obtain ⟨y0, hy0⟩ : ∃ y, wr.cell? ⟨g, j * 3, none⟩ = some y := ⟨_, (hor.row.cellAt _ (by omega)).trans (List.getElem?_eq_getElem (by omega))⟩
      obtain ⟨y1, hy1⟩ : ∃ y, wr.cell? ⟨g, j * 3 + 1, none⟩ = some y := ⟨_, (hor.row.cellAt _ (by omega)).trans (List.getElem?_eq_getElem (by omega))⟩
      obtain ⟨y2, hy2⟩ : ∃ y, wr.cell? ⟨g, j * 3 + 2, none⟩ = some y := ⟨_, (hor.row.cellAt _ (by omega)).trans (List.getElem?_eq_getElem (by omega))⟩
      have hs := hor.store j hlt (mkPu k j) (⟨by simp [mkPu]; omega, by simp [mkPu]; omega⟩)
      rw [mkdPu_set ps k j (by rw [HL.out]; exact hlt)] at hs
      have e0 : (mkPu k j).1 = (k : Int) + 3 * (j : Int) := by simp [mkPu]
      have e1 : (mkPu k j).2.1 = (k : Int) + 3 * (j : Int) + 1 := by simp [mkPu]
      have e2 : (mkPu k j).2.2 = (k : Int) + 3 * (j : Int) + 2 := by simp [mkPu]
      rw [e0, e1, e2] at hs
      have ht : ∀ p q, In (some ⟨g, 0, none⟩) n p q → Touch p q w (((wr.setCell ⟨g, j * 3, none⟩ (.int .i64 ((k : Int) + 3 * (j : Int)))).setCell ⟨g, j * 3 + 1, none⟩ (.int .u64 ((k : Int) + 3 * (j : Int) + 1))).setCell ⟨g, j * 3 + 2, none⟩ (.int .i64 ((k : Int) + 3 * (j : Int) + 2))) := fun p q hin => by
        have hp := hin g 0 rfl (by omega)
        exact (((htr p q hin).trans (touch_onePu _ g (j * 3) _ hp.1 hp.2)).trans (touch_onePu _ g (j * 3 + 1) _ hp.1 hp.2)).trans (touch_onePu _ g (j * 3 + 2) _ hp.1 hp.2)
      have FIN : Hid (_ ∧ _) := ⟨hs, ht⟩
      have hlti : (j : Int) < (n : Int) := by omega
      clear hor htr hs ht e0 e1 e2 hfl
      go_wp2
      go_roundw
      case rel => exact ⟨j + 1, by omega, by go_num, by go_num, FIN.out.1, FIN.out.2⟩
      case measure => simp [intOf]; omega
    · obtain rfl : j = n := by omega
      have hm : mkdPu ps k j = marksPu k j := by rw [← HL.out]; exact mkdPu_all ps k
      rw [hm] at hor
      have FIN : Hid (_ ∧ _) := ⟨hor, htr⟩
      clear hor htr hm
      go_wp2
      go_ret
      exact ⟨by go_num, FIN.out.1, FIN.out.2⟩

end Go.Proofs.YtkngnmnfkedfcaaGreat

set_option linter.unusedVariables false
namespace Go.Proofs.YtkngnmnfkedfcaaGreat
open Go.RowKit Go.Sort

abbrev Pu3 := Int × Int × Int
def kidQ (p : Pu3) : Int := kidN p.1 p.2.1 p.2.2
def fndF (f : Pu3 → Int) : List Pu3 → Int → Option Pu3
  | [], _ => none
  | p :: r, id => if f p = id then some p else fndF f r id
theorem fndF_at (f : Pu3 → Int) : ∀ (ks : List Pu3) (id : Int) (j : Nat), j < ks.length → f (ks.getD j (0, 0, 0)) = id → (∀ i, i < j → f (ks.getD i (0, 0, 0)) ≠ id) → fndF f ks id = some (ks.getD j (0, 0, 0))
  | [], _, _, h, _, _ => absurd h (Nat.not_lt_zero _)
  | p :: r, id, 0, _, h, _ => if_pos h
  | p :: r, id, j + 1, hj, h, hn => (if_neg (hn 0 (Nat.succ_pos _))).trans (fndF_at f r id j (by simpa using hj) h (fun i hi => hn (i + 1) (by omega)))
theorem fndF_none (f : Pu3 → Int) : ∀ (ks : List Pu3) (id : Int), (∀ i, i < ks.length → f (ks.getD i (0, 0, 0)) ≠ id) → fndF f ks id = none
  | [], _, _ => rfl
  | p :: r, id, hn => (if_neg (hn 0 (by simp))).trans (fndF_none f r id (fun i hi => hn (i + 1) (by simpa using hi)))
def fndK (ks : List Pu3) (id : Int) : Option Pu3 := fndF kidQ ks id
def NoK (ks : List Pu3) (id : Int) (n : Nat) : Prop := ∀ i, i < n → kidQ (ks.getD i (0, 0, 0)) ≠ id
theorem fndK_at (ks : List Pu3) (id : Int) (j : Nat) (h1 : j < ks.length) (h2 : kidQ (ks.getD j (0, 0, 0)) = id) (h3 : NoK ks id j) : fndK ks id = some (ks.getD j (0, 0, 0)) := fndF_at kidQ ks id j h1 h2 h3
theorem fndK_none (ks : List Pu3) (id : Int) (h : NoK ks id ks.length) : fndK ks id = none := fndF_none kidQ ks id h
theorem beqI (a b : Int) : (a == b) = decide (a = b) := rfl
/-- The numbers of a key are small. -/
def PuB (ks : List Pu3) (n : Nat) : Prop := ∀ j, j < n → (ks.getD j (0, 0, 0)).1 ≤ 9223372036854775807 ∧ (ks.getD j (0, 0, 0)).2.2 ≤ 9223372036854775807
/-- What is said of a signer. -/
def stC (tag : Int) (ws : List Int) (x : ItT) (ks : List Pu3) (now : Int) : Int :=
  match fndK ks x.ky with
  | none => 1
  | some p => if anyP p.1 p.2.1 p.2.2 (sgB tag ws x.at2) x.sg then (if now < x.at2 then 3 else 0) else 2
theorem stC_none {tag : Int} {ws : List Int} {x : ItT} {ks : List Pu3} {now : Int} (h : fndK ks x.ky = none) : stC tag ws x ks now = 1 := by unfold stC; rw [h]
theorem stC_some {tag : Int} {ws : List Int} {x : ItT} {ks : List Pu3} {now : Int} {p : Pu3} (h : fndK ks x.ky = some p) : stC tag ws x ks now = if anyP p.1 p.2.1 p.2.2 (sgB tag ws x.at2) x.sg then (if now < x.at2 then 3 else 0) else 2 := by unfold stC; rw [h]

theorem implKeyId_q (p : Pu3) (w : World) (hx : U64 p.2.1) (hl : p.1 ≤ 9223372036854775807) (hd : p.2.2 ≤ 9223372036854775807) :
    Calls Tryz.prog 60 #[.agg #[.int .i64 p.1, .int .u64 p.2.1, .int .i64 p.2.2]] w fun e w' => e = .returned (.int .u64 (kidQ p)) ∧ Below w.heap.size w w' := implKeyId_any p.1 p.2.1 p.2.2 w hx hl hd

theorem specKeyId_q (p : Pu3) (w : World) (hx : U64 p.2.1) (hl : p.1 ≤ 9223372036854775807) (hd : p.2.2 ≤ 9223372036854775807) :
    Calls Tryz.prog 33 #[.agg #[.int .i64 p.1, .int .u64 p.2.1, .int .i64 p.2.2]] w fun e w' => e = .returned (.int .u64 (kidQ p)) ∧ Below w.heap.size w w' := specKeyId_any p.1 p.2.1 p.2.2 w hx hl hd

theorem implVerify_q (p : Pu3) (am : Option Addr) (n c : Nat) (ms : List Int) (ag : Option Addr) (ng cg : Nat) (ss : List Int) (w : World) (hy : U64 p.2.1) (hr : Row w am n ms) (hn : n ≤ 1048576) (hc : am = none → c = 0) (hg : Row w ag ng ss) (hng : ng ≤ 1048576) (hcg : ng ≤ cg) :
    Calls Tryz.prog 39 #[.agg #[.int .i64 p.1, .int .u64 p.2.1, .int .i64 p.2.2], .slice am n c, .slice ag ng cg] w fun e w' => e = .returned (.bool (decide (anyP p.1 p.2.1 p.2.2 ms ss))) ∧ Below w.heap.size w w' := implVerifyAny_any p.1 p.2.1 p.2.2 am n c ms ag ng cg ss w hy hr hn hc hg hng hcg

theorem specVerify_q (p : Pu3) (am : Option Addr) (n c : Nat) (ms : List Int) (ag : Option Addr) (ng cg : Nat) (ss : List Int) (w : World) (hy : U64 p.2.1) (hr : Row w am n ms) (hn : n ≤ 1048576) (hc : am = none → c = 0) (hg : Row w ag ng ss) (hng : ng ≤ 1048576) (hcg : ng ≤ cg) :
    Calls Tryz.prog 34 #[.agg #[.int .i64 p.1, .int .u64 p.2.1, .int .i64 p.2.2], .slice am n c, .slice ag ng cg] w fun e w' => e = .returned (.bool (decide (anyP p.1 p.2.1 p.2.2 ms ss))) ∧ Below w.heap.size w w' := specVerifyAny_any p.1 p.2.1 p.2.2 am n c ms ag ng cg ss w hy hr hn hc hg hng hcg

/-- A number lies in the box g. -/
structure CellIs (w : World) (g : Nat) (id : Int) : Prop where
  lt : g < w.heap.size
  is : w.cell? ⟨g, 0, none⟩ = some (.int .u64 id)
theorem CellIs.kept {w w' : World} {g : Nat} {id : Int} (h : CellIs w g id) (hb : Below w.heap.size w w') : CellIs w' g id := ⟨Nat.lt_of_lt_of_le h.lt hb.size, (hb.cell (p := ⟨g, 0, none⟩) h.lt).trans h.is⟩

/-- What is known of a region (RJ). -/
def kwSp (q : Pu3) (id : Int) (g G B : Nat) : RSpec where
  m := 5
  n := 7
  slots := [4, 5, 6, 7, 3, 100005, 100006]
  kills := [[], [], [], [], [], [], []]
  pres := [[], [], [], [], [], [], []]
  fact := fun k v w => match k with
    | 0 => v = .agg #[.int .i64 q.1, .int .u64 q.2.1, .int .i64 q.2.2]
    | 1 => v = .int .u64 (kidQ q)
    | 2 => v = .int .u64 id
    | 3 => v = .bool (kidQ q == id)
    | 4 => v = .bool (kidQ q == id)
    | 5 => w.heap[G]? = some (.cells #[.int .i64 q.1, .int .u64 q.2.1, .int .i64 q.2.2] 55 (0, 0))
    | _ => CellIs w g id
set_option linter.unusedVariables false in
theorem kwSp_stb (q : Pu3) (id : Int) (g G B : Nat) (k : Nat) (hk : k < 7) : StB ((kwSp q id g G (B)).fact k) := by
  match k, hk with
  | 0, _ => exact fun _ _ _ h _ => h
  | 1, _ => exact fun _ _ _ h _ => h
  | 2, _ => exact fun _ _ _ h _ => h
  | 3, _ => exact fun _ _ _ h _ => h
  | 4, _ => exact fun _ _ _ h _ => h
  | 5, _ => exact fun _ _ _ q_0 hb => below_kept q_0 hb
  | 6, _ => exact fun _ _ _ q_0 hb => q_0.kept hb
  | k + 7, hk => omega

set_option maxRecDepth 10000 in
set_option maxHeartbeats 2000000 in
theorem keyClosure_any (q : Pu3) (g : Nat) (id : Int) (w : World) (hg : g < w.heap.size) (cg : w.cell? ⟨g, 0, none⟩ = some (.int .u64 id)) (hu : U64 q.2.1) (hl : q.1 ≤ 9223372036854775807) (hd : q.2.2 ≤ 9223372036854775807) :
    Calls Tryz.prog 59 #[.agg #[.int .i64 q.1, .int .u64 q.2.1, .int .i64 q.2.2], .pointer (some ⟨g, 0, none⟩)] w fun e w' => e = .returned (.bool (decide (kidQ q = id))) ∧ Below w.heap.size w w' := by
  obtain ⟨wb, hwb⟩ : ∃ wb, wb = w.alloc (.cells #[.int .i64 q.1, .int .u64 q.2.1, .int .i64 q.2.2] 55) := ⟨_, rfl⟩
  have hbb : Below w.heap.size w wb := by rw [hwb]; exact (Below.refl _ _).alloc (Nat.le_refl _) _
  have HBK : Hid (wb.heap[w.heap.size]? = some (.cells #[.int .i64 q.1, .int .u64 q.2.1, .int .i64 q.2.2] 55 (0, 0))) := by show _ = _; rw [hwb]; exact heap_alloc_new w _
  have HCI : Hid (CellIs wb g id) := (CellIs.mk hg cg).kept hbb
  have HW : Hid (_ = _) := hwb
  clear hwb cg
  go_enter Tryz.func59, Tryz.ntmps59
  go_upto_region 1 with fail
  rw [← HW.out]
  clear HW
  have HBB : wb.heap.size ≤ wb.heap.size := Nat.le_refl _
  refine wp_region_ri (kwSp q id g w.heap.size (wb.heap.size)) [3, 4, 5, 6, 7] (wb.heap.size) (fun a0 => a0.tmps.size = 8 ∧ aT a0 2 = .pointer (some ⟨w.heap.size, 0, none⟩) ∧ aT a0 1 = .pointer (some ⟨g, 0, none⟩)) (by kernel_rfl) rfl (by kernel_rfl) rfl ⟨rfl, rfl, rfl⟩ (kwSp_stb q id g w.heap.size (wb.heap.size)) ?_ ?_ ?_
  · intro k hk hk2
    match k, hk, hk2 with
    | 5, _, _ => exact HBK.out
    | 6, _, _ => exact HCI.out
    | 0, hk, _ => exact absurd hk (by show ¬ (5 ≤ 0); omega)
    | 1, hk, _ => exact absurd hk (by show ¬ (5 ≤ 1); omega)
    | 2, hk, _ => exact absurd hk (by show ¬ (5 ≤ 2); omega)
    | 3, hk, _ => exact absurd hk (by show ¬ (5 ≤ 3); omega)
    | 4, hk, _ => exact absurd hk (by show ¬ (5 ≤ 4); omega)
    | k + 7, _, hk2 => exact absurd hk2 (by show ¬ (k + 7 < 7); omega)
  · rintro a0 ⟨hz, g2, g1⟩
    refine StepsRI.cons ?_ (StepsRI.cons ?_ (StepsRI.cons ?_ (StepsRI.cons ?_ (StepsRI.cons ?_ (StepsRI.nil)))))
    · intro lQ b W hI hUN hED KQ hKQ
      have hg := (hI.vot 5 (of_decide_eq_true rfl) (of_decide_eq_true rfl) rfl)
      refine wp_load_row 55 _ rfl (w.heap.size) ((hI.fr.same 2 (by decide)).trans g2) 55 #[.int .i64 q.1, .int .u64 q.2.1, .int .i64 q.2.2] (0, 0) _ hg Tryz.underlying55 rfl (by kernel_rfl) ?_
      exact hKQ.out _ _ (hI.put 0 4 rfl rfl (by rw [hz]; decide) rfl hUN rfl HBB (kwSp_stb q id g w.heap.size (wb.heap.size)) (Below.refl _ _) rfl)
    · intro lQ b W hI hUN hED KQ hKQ
      have f0 := hI.got 0 (of_decide_eq_true rfl) (edge hED 0 (by kernel_rfl)) rfl
      replace f0 : aT b 4 = .agg #[.int .i64 q.1, .int .u64 q.2.1, .int .i64 q.2.2] := f0
      refine opw_call 60 #[.tmp 4] _ _ _ rfl Tryz.func60 (by kernel_rfl) rfl #[.agg #[.int .i64 q.1, .int .u64 q.2.1, .int .i64 q.2.2]] (by simp [ev, f0]) ?_
      refine (implKeyId_q q W hu hl hd).mono ?_
      rintro e W2 ⟨rfl, hb⟩
      exact ⟨_, rfl, hKQ.out _ _ (hI.put 1 5 rfl rfl (by rw [hz]; decide) rfl hUN rfl HBB (kwSp_stb q id g w.heap.size (wb.heap.size)) hb rfl)⟩
    · intro lQ b W hI hUN hED KQ hKQ
      have hg := (hI.vot 6 (of_decide_eq_true rfl) (of_decide_eq_true rfl) rfl)
      have hc : W.cell? ⟨g, 0, none⟩ = some (.int .u64 id) := hg.is
      exact opw_load1 48 1 rfl _ ((hI.fr.same 1 (by decide)).trans g1) _ (by simp [Instr.loadAt, go_sem, hc]) (hKQ.out _ _ (hI.put 2 6 rfl rfl (by rw [hz]; decide) rfl hUN rfl HBB (kwSp_stb q id g w.heap.size (wb.heap.size)) (Below.refl _ _) rfl))
    · intro lQ b W hI hUN hED KQ hKQ
      have fa : aT b 5 = .int .u64 (kidQ q) := hI.got 1 (of_decide_eq_true rfl) (edge hED 1 (by kernel_rfl)) rfl
      have fb : aT b 6 = .int .u64 id := hI.got 2 (of_decide_eq_true rfl) (edge hED 2 (by kernel_rfl)) rfl
      have fa2 : b.tmps[5]?.getD undef = .int .u64 (kidQ q) := by simpa [aT] using fa
      have fb2 : b.tmps[6]?.getD undef = .int .u64 id := by simpa [aT] using fb
      exact opw_value (.bool (kidQ q == id)) (by simp [execOp, Act.eval, fa2, fb2, go_sem]) (hKQ.out _ _ (hI.put 3 7 rfl rfl (by rw [hz]; decide) rfl hUN rfl HBB (kwSp_stb q id g w.heap.size (wb.heap.size)) (Below.refl _ _) rfl))
    · intro lQ b W hI hUN hED KQ hKQ
      have f := hI.got 3 (of_decide_eq_true rfl) (edge hED 3 (by kernel_rfl)) rfl
      exact opw_assign 7 rfl (hKQ.out _ _ (hI.put 4 3 rfl rfl (by rw [hz]; decide) rfl hUN rfl HBB (kwSp_stb q id g w.heap.size (wb.heap.size)) (Below.refl _ _) f))
  · intro b W hf hb F
    have e3 := F 4 (of_decide_eq_true rfl) rfl
    replace e3 : aT b 3 = _ := e3
    rw [hf.eq]
    simp only [puts, Act.put, List.setIfInBounds_toArray, List.set_cons_zero, List.set_cons_succ, e3]
    clear hf F e3
    generalize aT b = AT
    clear b
    go_wp2
    go_ret
    exact ⟨by rw [← beqI]; rfl, keepT hbb hb⟩

set_option maxRecDepth 10000 in
set_option maxHeartbeats 2000000 in
theorem keyIndex_any (a : Option Addr) (n c : Nat) (ks : List Pu3) (g : Nat) (id : Int) (w : World) (h : RowPu w a n ks) (hB : PuB ks n) (hn : n ≤ 9223372036854775807) (hg : g < w.heap.size) (cg : w.cell? ⟨g, 0, none⟩ = some (.int .u64 id)) :
    Calls Tryz.prog 58 #[.slice a n c, .func (Fn.func 59) #[] #[.pointer (some ⟨g, 0, none⟩)]] w fun e w' => ((∃ j : Nat, e = .returned (.int .i64 j) ∧ Hid (j < n ∧ fndK ks id = some (ks.getD j (0, 0, 0)))) ∨ (e = .returned (.int .i64 (-1)) ∧ Hid (fndK ks id = none))) ∧ Below w.heap.size w w' := by
  have H0 : Hid (RowPu w a n ks) := h
  have HL : Hid (ks.length = n) := h.len
  have HCG : Hid (w.cell? ⟨g, 0, none⟩ = some (.int .u64 id)) := cg
  have HPB : Hid (PuB ks n) := hB
  clear h cg hB
  go_enter Tryz.func58, Tryz.ntmps58
  go_wp2
  go_loopw [8] (fun i wr => ∃ k : Nat, k ≤ n ∧ i = .int .i64 k ∧ Hid (NoK ks id k) ∧ Below w.heap.size w wr) (fun i _ => n - (intOf i).toNat)
  case atStart => exact ⟨0, Nat.zero_le _, rfl, fun k hk => absurd hk (Nat.not_lt_zero _), Below.refl _ _⟩
  case round =>
    obtain ⟨k, hk, rfl, HN, hbr⟩ := hrel
    by_cases hlt : k < n
    · obtain ⟨b, off, rfl, hb, x0, x1, x2⟩ := (H0.out.kept hbr).get k hlt
      have hu := H0.out.rng k
      have hpb := HPB.out k hlt
      obtain ⟨q, hq⟩ : ∃ q, q = ks.getD k (0, 0, 0) := ⟨_, rfl⟩
      rw [← hq] at x0 x1 x2 hu hpb
      have HQ : Hid (ks.getD k (0, 0, 0) = q) := hq.symm
      clear hq
      have hlti : (k : Int) < (n : Int) := by omega
      go_wp2_with fail
      refine (keyClosure_any q g id _ (Nat.lt_of_lt_of_le hg hbr.size) ((hbr.cell (p := ⟨g, 0, none⟩) hg).trans HCG.out) hu hpb.1 hpb.2).mono ?_
      rintro e w2 ⟨rfl, hb2⟩
      have B2 := keepT hbr hb2
      by_cases h0 : kidQ q = id
      · rw [decide_eq_true h0]
        have HP : Hid (k < n ∧ fndK ks id = some (ks.getD k (0, 0, 0))) := ⟨hlt, fndK_at ks id k (by rw [HL.out]; exact hlt) (by rw [HQ.out]; exact h0) HN.out⟩
        clear h0
        go_wp2
        go_ret
        exact ⟨.inl ⟨k, rfl, HP⟩, B2⟩
      · rw [decide_eq_false h0]
        have HN2 : Hid (NoK ks id (k + 1)) := fun i hi => by
          by_cases e : i < k
          · exact HN.out i e
          · obtain rfl : i = k := by omega
            rw [HQ.out]; exact h0
        clear h0
        go_wp2
        go_roundw
        case rel => exact ⟨k + 1, by omega, by go_num, HN2, B2⟩
        case measure => simp [intOf]; omega
    · obtain rfl : k = n := by omega
      have HP : Hid (fndK ks id = none) := fndK_none ks id (by rw [HL.out]; exact HN.out)
      go_wp2
      go_ret
      exact ⟨.inr ⟨rfl, HP⟩, hbr⟩

theorem results_kw {fn : Func} {t z : Tmp} (h : fn.results = #[.cell t 55, .tmp z]) (tmps : Array Value) (g : Nat) (ht : tmps.getD t undef = .pointer (some ⟨g, 0, none⟩)) (q : Value) (hz : tmps.getD z undef = q) (w : World) (c1 : Array Value)
    (b1 : w.heap[g]? = some (.cells c1 55 (0, 0))) (s1 : c1.size = 3) : (results fn tmps).run Tryz.prog w = .ok (.tuple #[.agg c1, q]) w := by
  have i1 : (Tryz.prog.info? 55).map (·.size) = some c1.size := by rw [s1]; kernel_rfl
  have ht' : tmps[t]?.getD undef = .pointer (some ⟨g, 0, none⟩) := by rw [← ht]; simp
  have hz' : tmps[z]?.getD undef = q := by rw [← hz]; simp
  simp [results, h, ht', hz', asAddr, run_loadVar_row w g _ _ c1 (0, 0) _ b1 Tryz.underlying55 rfl i1]

set_option maxRecDepth 10000 in
set_option maxHeartbeats 2000000 in
theorem keyWith_any (a : Option Addr) (n c : Nat) (ks : List Pu3) (id : Int) (w : World) (h : RowPu w a n ks) (hB : PuB ks n) (hn : n ≤ 9223372036854775807) :
    Calls Tryz.prog 38 #[.slice a n c, .int .u64 id] w fun e w' => ((∃ p, e = .returned (.tuple #[.agg #[.int .i64 p.1, .int .u64 p.2.1, .int .i64 p.2.2], .bool true]) ∧ Hid (fndK ks id = some p ∧ U64 p.2.1)) ∨ (∃ v, e = .returned (.tuple #[.agg #[.int .i64 0, .int .u64 0, .int .i64 0], .bool v]) ∧ v = false ∧ Hid (fndK ks id = none))) ∧ Below w.heap.size w w' := by
  obtain ⟨wb, hwb⟩ : ∃ wb, wb = (w.alloc (.cells #[.int .u64 id] 48)).alloc (.cells #[.int .i64 0, .int .u64 0, .int .i64 0] 55) := ⟨_, rfl⟩
  have hn2 := two_blocks w (.cells #[.int .u64 id] 48) (.cells #[.int .i64 0, .int .u64 0, .int .i64 0] 55)
  have hbb : Below w.heap.size w wb := by rw [hwb]; exact two_below _ _ _
  rw [← hwb] at hn2
  have HN : Hid (_ ∧ _) := hn2
  have cg : wb.cell? ⟨w.heap.size, 0, none⟩ = some (.int .u64 id) := (cell_of_row _ _ 0 _ 48 (0, 0) hn2.1).trans rfl
  have hgl : w.heap.size + 1 < wb.heap.size := (Array.getElem?_eq_some_iff.1 hn2.2).1
  have HR : Hid (RowPu wb a n ks) := h.kept hbb
  have HPB : Hid (PuB ks n) := hB
  have HUR : Hid (UPu ks) := h.rng
  have HW : Hid (_ = _) := hwb
  clear hwb hn2 h hB
  go_enter Tryz.func38, Tryz.ntmps38
  go_upto_region 1 with fail
  rw [← HW.out]
  clear HW
  go_wp2_with fail
  refine (keyIndex_any a n c ks w.heap.size id _ HR.out HPB.out hn (by omega) cg).mono ?_
  rintro e w2 ⟨hans, hb2⟩
  have hB2 := keepT hbb hb2
  have HB2 : Hid (w2.heap[w.heap.size + 1]? = some (.cells #[.int .i64 0, .int .u64 0, .int .i64 0] 55 (0, 0))) := (hb2.block _ hgl).trans HN.out.2
  obtain ⟨f0, f1, f2⟩ : w2.frozen? ⟨w.heap.size + 1, 0, none⟩ = false ∧ w2.frozen? ⟨w.heap.size + 1, 1, none⟩ = false ∧ w2.frozen? ⟨w.heap.size + 1, 2, none⟩ = false := ⟨frozen_of_row w2 _ 0 _ _ HB2.out, frozen_of_row w2 _ 1 _ _ HB2.out, frozen_of_row w2 _ 2 _ _ HB2.out⟩
  have d0 : w2.cell? ⟨w.heap.size + 1, 0, none⟩ = some (.int .i64 0) := (cell_of_row _ _ 0 _ 55 (0, 0) HB2.out).trans rfl
  have d1 : w2.cell? ⟨w.heap.size + 1, 1, none⟩ = some (.int .u64 0) := (cell_of_row _ _ 1 _ 55 (0, 0) HB2.out).trans rfl
  have d2 : w2.cell? ⟨w.heap.size + 1, 2, none⟩ = some (.int .i64 0) := (cell_of_row _ _ 2 _ 55 (0, 0) HB2.out).trans rfl
  clear cg
  rcases hans with ⟨j, rfl, HP⟩ | ⟨rfl, HP⟩
  · obtain ⟨hj, _⟩ := HP.out
    obtain ⟨b, off, rfl, hlb, x0, x1, x2⟩ := (HR.out.kept hb2).get j hj
    have hu := HUR.out j
    obtain ⟨p, hp⟩ : ∃ p, p = ks.getD j (0, 0, 0) := ⟨_, rfl⟩
    rw [← hp] at x0 x1 x2 hu
    have HQ : Hid (fndK ks id = some p) := by show _ = _; rw [HP.out.2, hp]
    have hji : (j : Int) < (n : Int) := by omega
    have hz : ¬ ((j : Int) < 0) := by omega
    have HU : Hid (U64 p.2.1) := hu
    obtain ⟨w4, hw4⟩ : ∃ w4, w4 = ((w2.setCell ⟨w.heap.size + 1, 0, none⟩ (.int .i64 p.1)).setCell ⟨w.heap.size + 1, 1, none⟩ (.int .u64 p.2.1)).setCell ⟨w.heap.size + 1, 2, none⟩ (.int .i64 p.2.2) := ⟨_, rfl⟩
    have hB4 : Below w.heap.size w w4 := by rw [hw4]; exact ((hB2.setCell (by simp) _).setCell (by simp) _).setCell (by simp) _
    have H4 : Hid (w4.heap[w.heap.size + 1]? = some (.cells #[.int .i64 p.1, .int .u64 p.2.1, .int .i64 p.2.2] 55 (0, 0))) := by show _ = _; rw [hw4]; exact heap_setCell_same _ _ 2 _ _ _ (heap_setCell_same _ _ 1 _ _ _ (heap_setCell_same w2 _ 0 _ _ _ HB2.out))
    have HW : Hid (_ = _) := hw4
    clear hp hw4 hu HP
    go_wp2
    rw [← HW.out]
    try simp only [Exit.inBlock, Exit.then]
    exact bodyPost_ret (results_kw rfl _ (w.heap.size + 1) rfl _ rfl _ _ H4.out rfl) rfl ⟨.inl ⟨p, rfl, HQ.out, HU.out⟩, hB4⟩
  · obtain ⟨w4, hw4⟩ : ∃ w4, w4 = ((w2.setCell ⟨w.heap.size + 1, 0, none⟩ (.int .i64 0)).setCell ⟨w.heap.size + 1, 1, none⟩ (.int .u64 0)).setCell ⟨w.heap.size + 1, 2, none⟩ (.int .i64 0) := ⟨_, rfl⟩
    have hB4 : Below w.heap.size w w4 := by rw [hw4]; exact ((hB2.setCell (by simp) _).setCell (by simp) _).setCell (by simp) _
    have H4 : Hid (w4.heap[w.heap.size + 1]? = some (.cells #[.int .i64 0, .int .u64 0, .int .i64 0] 55 (0, 0))) := by show _ = _; rw [hw4]; exact heap_setCell_same _ _ 2 _ _ _ (heap_setCell_same _ _ 1 _ _ _ (heap_setCell_same w2 _ 0 _ _ _ HB2.out))
    have HW : Hid (_ = _) := hw4
    clear hw4
    go_wp2
    rw [← HW.out]
    try simp only [Exit.inBlock, Exit.then]
    exact bodyPost_ret (results_kw rfl _ (w.heap.size + 1) rfl _ rfl _ _ H4.out rfl) rfl ⟨.inr ⟨false, rfl, rfl, HP.out⟩, hB4⟩

end Go.Proofs.YtkngnmnfkedfcaaGreat

set_option linter.unusedVariables false
namespace Go.Proofs.YtkngnmnfkedfcaaGreat
open Go.RowKit Go.Sort

set_option maxRecDepth 10000 in
set_option maxHeartbeats 4000000 in
theorem signerCode_any (tag : Int) (am : Option Addr) (nn cm : Nat) (ws : List Int) (x : ItT) (ab : Option Addr) (nb cb : Nat) (ak : Option Addr) (nk ck : Nat) (A0 : Option Addr) (n0 d0 : Nat) (ks : List Pu3) (now : Int) (w : World) (hr : Row w am nn ws) (hc : am = none → cm = 0) (hn : nn ≤ 4000) (ht0 : 1 ≤ tag) (ht1 : tag ≤ 30) (hs : Row w ab nb x.sg) (hnb : nb ≤ 1048576) (hcb : nb ≤ cb) (hat : -9223372036854775808 ≤ x.at2 ∧ x.at2 ≤ 9223372036854775807) (hp : RowPu w A0 n0 ks) (hB : PuB ks n0) (hn0 : n0 ≤ 9223372036854775807) :
    Calls Tryz.prog 25 #[.agg #[.int .u64 x.ky, .int .i64 x.at2, .slice ab nb cb, .slice ak nk ck], .int .i64 tag, .slice am nn cm, .slice A0 n0 d0, .int .i64 now] w fun e w' => e = .returned (.int .i64 (stC tag ws x ks now)) ∧ Below w.heap.size w w' := by
  obtain ⟨wb, hwb⟩ : ∃ wb, wb = w.alloc (.cells #[.int .u64 x.ky, .int .i64 x.at2, .slice ab nb cb, .slice ak nk ck] 50) := ⟨_, rfl⟩
  have hbb : Below w.heap.size w wb := by rw [hwb]; exact (Below.refl _ _).alloc (Nat.le_refl _) _
  have hblk : wb.heap[w.heap.size]? = some (.cells #[.int .u64 x.ky, .int .i64 x.at2, .slice ab nb cb, .slice ak nk ck] 50 (0, 0)) := by rw [hwb]; exact heap_alloc_new w _
  have HBK : Hid (_) := hblk
  obtain ⟨bd, hbd⟩ : ∃ bd, bd = sgB tag ws x.at2 := ⟨_, rfl⟩
  obtain ⟨hE, hEl⟩ := sgB_enc tag ws x.at2 ht0 ht1 (by have := hr.len; omega)
  rw [← hbd] at hE hEl
  obtain ⟨V, hV⟩ : ∃ V, V = stC tag ws x ks now := ⟨_, rfl⟩
  rw [← hV]
  have HNONE : Hid (fndK ks x.ky = none → V = 1) := fun h => by rw [hV]; exact stC_none h
  have HSOME : Hid (∀ p, fndK ks x.ky = some p → V = if anyP p.1 p.2.1 p.2.2 bd x.sg then (if now < x.at2 then 3 else 0) else 2) := fun p h => by rw [hV, hbd]; exact stC_some h
  have HR : Hid (∀ W, Below wb.heap.size wb W → Row W am nn ws ∧ Row W ab nb x.sg ∧ RowPu W A0 n0 ks) := fun W hW => ⟨hr.kept (keepT hbb hW), hs.kept (keepT hbb hW), hp.kept (keepT hbb hW)⟩
  have HPB : Hid (PuB ks n0) := hB
  have HUR : Hid (UPu ks) := hp.rng
  have HLK : Hid (ks.length = n0) := hp.len
  have HE : Hid (enc 12 (sgI tag ws x.at2) = some bd) := hE
  have HW : Hid (_ = _) := hwb
  clear hwb hblk hr hs hp hB hV hbd hE
  obtain ⟨c0, c1, c2, c3⟩ := cells4g HBK.out
  go_enter Tryz.func25, Tryz.ntmps25
  go_upto_region 1 with fail
  rw [← HW.out]
  clear HW
  go_wp2_with fail
  refine (keyWith_any A0 n0 d0 ks x.ky _ (HR.out _ (Below.refl _ _)).2.2 HPB.out hn0).mono ?_
  rintro e w2 ⟨hans, hb2⟩
  clear c0 c1 c2 c3
  have hB2 := keepT hbb hb2
  rcases hans with ⟨p, rfl, HP⟩ | ⟨v, rfl, rfl, HP⟩
  case inr =>
    have HV : Hid (V = 1) := HNONE.out HP.out
    go_wp2
    go_ret
    exact ⟨by rw [HV.out]; rfl, hB2.alloc hB2.size _⟩
  obtain ⟨w3, hw3⟩ : ∃ w3, w3 = w2.alloc (.cells #[.int .i64 p.1, .int .u64 p.2.1, .int .i64 p.2.2] 55) := ⟨_, rfl⟩
  have hb3 : Below w2.heap.size w2 w3 := by rw [hw3]; exact (Below.refl _ _).alloc (Nat.le_refl _) _
  have h3b : w3.heap[w2.heap.size]? = some (.cells #[.int .i64 p.1, .int .u64 p.2.1, .int .i64 p.2.2] 55 (0, 0)) := by rw [hw3]; exact heap_alloc_new w2 _
  have hb23 := keepT hb2 hb3
  have hB3 := keepT hbb hb23
  obtain ⟨vq, hvq⟩ : ∃ vq, vq = decide (anyP p.1 p.2.1 p.2.2 bd x.sg) := ⟨_, rfl⟩
  have HVQ : Hid (decide (anyP p.1 p.2.1 p.2.2 bd x.sg) = vq) := hvq.symm
  have HVV : Hid (V = if vq = true then (if now < x.at2 then 3 else 0) else 2) := by show _ = _; rw [HSOME.out p HP.out.1, hvq]; simp
  have hup : U64 p.2.1 := HP.out.2
  have HCZ : Hid (∀ W, Below w3.heap.size w3 W → W.cell? ⟨w.heap.size, 1, none⟩ = some (.int .i64 x.at2) ∧ W.cell? ⟨w.heap.size, 2, none⟩ = some (.slice ab nb cb) ∧ W.cell? ⟨w2.heap.size, 0, none⟩ = some (.int .i64 p.1) ∧ W.cell? ⟨w2.heap.size, 1, none⟩ = some (.int .u64 p.2.1) ∧ W.cell? ⟨w2.heap.size, 2, none⟩ = some (.int .i64 p.2.2)) := fun W hW => by
    have q := cells4g (below_kept (below_kept HBK.out hb23) hW)
    have r := below_kept h3b hW
    exact ⟨q.2.1, q.2.2.1, (cell_of_row _ _ 0 _ 55 (0, 0) r).trans rfl, (cell_of_row _ _ 1 _ 55 (0, 0) r).trans rfl, (cell_of_row _ _ 2 _ 55 (0, 0) r).trans rfl⟩
  have HW : Hid (_ = _) := hw3
  clear hw3 h3b hvq
  go_upto_region 4 with fail
  rw [← HW.out]
  clear HW
  have hcz : Below w3.heap.size w3 w3.drew := (Below.refl _ _).drew
  have SS0 := HCZ.out _ hcz
  go_region_held3 (fun W => W.cell? ⟨w.heap.size, 1, none⟩ = some (.int .i64 x.at2) ∧ W.cell? ⟨w.heap.size, 2, none⟩ = some (.slice ab nb cb) ∧ W.cell? ⟨w2.heap.size, 0, none⟩ = some (.int .i64 p.1) ∧ W.cell? ⟨w2.heap.size, 1, none⟩ = some (.int .u64 p.2.1) ∧ W.cell? ⟨w2.heap.size, 2, none⟩ = some (.int .i64 p.2.2)) (first | assumption | exact SS0 | exact SS2 | exact SS4)
    (first
      | (go_at_call 40; ((with_reducible refine (signedAt_any tag am nn cm ws x.at2 bd w3.drew (HR.out _ (keepT hb23 hcz)).1 hc hn hat HE.out).mono ?_); rintro e w6 ⟨a6, c6, rfl, ho6, hb6⟩; have B6 : Below w3.heap.size w3 w6 := keepT hcz hb6; have SS2 := HCZ.out _ B6; have R6 : Hid (Row w6 a6 bd.length bd) := ho6.toRow; have hn6 : a6 = none → c6 = 0 := ho6.nil; clear ho6))
      | (go_at_call 39; ((with_reducible refine (implVerify_q p a6 bd.length c6 bd ab nb cb x.sg w6 hup R6.out (by omega) hn6 (HR.out _ (keepT hb23 B6)).2.1 hnb hcb).mono ?_); rw [HVQ.out]; rintro e w7 ⟨rfl, hb7⟩; have B7 : Below w3.heap.size w3 w7 := keepT B6 hb7; have SS4 := HCZ.out _ B7; have BQ : Below w.heap.size w w7 := keepT hB3 B7)))
  all_goals (
    cases vq with
    | false =>
      have HV : Hid (V = 2) := by show _ = _; rw [HVV.out, if_neg (by decide)]
      go_wp2_with fail
      go_ret
      exact ⟨by rw [HV.out]; rfl, BQ⟩
    | true =>
      obtain ⟨q1, _⟩ := SS4
      by_cases hlate : now < x.at2
      · have HV : Hid (V = 3) := by show _ = _; rw [HVV.out, if_pos rfl, if_pos hlate]
        go_wp2_with fail
        go_ret
        exact ⟨by rw [HV.out]; rfl, BQ⟩
      · have HV : Hid (V = 0) := by show _ = _; rw [HVV.out, if_pos rfl, if_neg hlate]
        go_wp2_with fail
        go_ret
        exact ⟨by rw [HV.out]; rfl, BQ⟩)

set_option maxRecDepth 10000 in
set_option maxHeartbeats 4000000 in
theorem l17State_any (tag : Int) (am : Option Addr) (nn cm : Nat) (ws : List Int) (x : ItT) (ab : Option Addr) (nb cb : Nat) (ak : Option Addr) (nk ck : Nat) (A0 : Option Addr) (n0 d0 : Nat) (ks : List Pu3) (now : Int) (w : World) (hr : Row w am nn ws) (hc : am = none → cm = 0) (hn : nn ≤ 4000) (ht0 : 1 ≤ tag) (ht1 : tag ≤ 30) (hs : Row w ab nb x.sg) (hnb : nb ≤ 1048576) (hcb : nb ≤ cb) (hat : -9223372036854775808 ≤ x.at2 ∧ x.at2 ≤ 9223372036854775807) (hp : RowPu w A0 n0 ks) (hB : PuB ks n0) (hn0 : n0 ≤ 9223372036854775807) :
    Calls Tryz.prog 20 #[.int .i64 tag, .slice am nn cm, .agg #[.int .u64 x.ky, .int .i64 x.at2, .slice ab nb cb, .slice ak nk ck], .slice A0 n0 d0, .int .i64 now] w fun e w' => e = .returned (.int .i64 (stC tag ws x ks now)) ∧ Below w.heap.size w w' := by
  obtain ⟨wb, hwb⟩ : ∃ wb, wb = w.alloc (.cells #[.int .u64 x.ky, .int .i64 x.at2, .slice ab nb cb, .slice ak nk ck] 50) := ⟨_, rfl⟩
  have hbb : Below w.heap.size w wb := by rw [hwb]; exact (Below.refl _ _).alloc (Nat.le_refl _) _
  have hblk : wb.heap[w.heap.size]? = some (.cells #[.int .u64 x.ky, .int .i64 x.at2, .slice ab nb cb, .slice ak nk ck] 50 (0, 0)) := by rw [hwb]; exact heap_alloc_new w _
  have HBK : Hid (_) := hblk
  obtain ⟨bd, hbd⟩ : ∃ bd, bd = sgB tag ws x.at2 := ⟨_, rfl⟩
  obtain ⟨hE, hEl⟩ := sgB_enc tag ws x.at2 ht0 ht1 (by have := hr.len; omega)
  rw [← hbd] at hE hEl
  obtain ⟨V, hV⟩ : ∃ V, V = stC tag ws x ks now := ⟨_, rfl⟩
  rw [← hV]
  have HNONE : Hid (fndK ks x.ky = none → V = 1) := fun h => by rw [hV]; exact stC_none h
  have HSOME : Hid (∀ p, fndK ks x.ky = some p → V = if anyP p.1 p.2.1 p.2.2 bd x.sg then (if now < x.at2 then 3 else 0) else 2) := fun p h => by rw [hV, hbd]; exact stC_some h
  have HR : Hid (∀ W, Below wb.heap.size wb W → Row W am nn ws ∧ Row W ab nb x.sg ∧ RowPu W A0 n0 ks) := fun W hW => ⟨hr.kept (keepT hbb hW), hs.kept (keepT hbb hW), hp.kept (keepT hbb hW)⟩
  have HPB : Hid (PuB ks n0) := hB
  have HUR : Hid (UPu ks) := hp.rng
  have HLK : Hid (ks.length = n0) := hp.len
  have HE : Hid (enc 12 (sgI tag ws x.at2) = some bd) := hE
  have HW : Hid (_ = _) := hwb
  clear hwb hblk hr hs hp hB hV hbd hE
  go_enter Tryz.func20, Tryz.ntmps20
  go_upto_region 1 with fail
  rw [← HW.out]
  clear HW
  go_wp2
  go_loopw [11] (fun i wr => ∃ k : Nat, k ≤ n0 ∧ i = .int .i64 k ∧ Hid (NoK ks x.ky k) ∧ Below wb.heap.size wb wr) (fun i _ => n0 - (intOf i).toNat)
  case atStart => exact ⟨0, Nat.zero_le _, rfl, fun k hk => absurd hk (Nat.not_lt_zero _), Below.refl _ _⟩
  case round =>
    obtain ⟨k, hk, rfl, HN, hbr⟩ := hrel
    by_cases hlt : k < n0
    · obtain ⟨pb, po, hA, hlb, _, _, _⟩ := (HR.out wr hbr).2.2.get k hlt
      have hu := HUR.out k
      have hpb := HPB.out k hlt
      obtain ⟨p, hp⟩ : ∃ p, p = ks.getD k (0, 0, 0) := ⟨_, rfl⟩
      rw [← hp] at hu hpb
      have HQ : Hid (ks.getD k (0, 0, 0) = p) := hp.symm
      have HCZ : Hid (∀ W, Below wr.heap.size wr W → W.cell? ⟨w.heap.size, 0, none⟩ = some (.int .u64 x.ky) ∧ W.cell? ⟨w.heap.size, 1, none⟩ = some (.int .i64 x.at2) ∧ W.cell? ⟨w.heap.size, 2, none⟩ = some (.slice ab nb cb) ∧ W.cell? ⟨pb, po + k * 3, none⟩ = some (.int .i64 p.1) ∧ W.cell? ⟨pb, po + k * 3 + 1, none⟩ = some (.int .u64 p.2.1) ∧ W.cell? ⟨pb, po + k * 3 + 2, none⟩ = some (.int .i64 p.2.2)) := fun W hW => by
        have q := cells4g (below_kept (below_kept HBK.out hbr) hW)
        obtain ⟨pb', po', hA', _, k0, k1, k2⟩ := (HR.out W (keepT hbr hW)).2.2.get k hlt
        rw [hA] at hA'
        cases hA'
        rw [← hp] at k0 k1 k2
        exact ⟨q.1, q.2.1, q.2.2.1, k0, k1, k2⟩
      subst hA
      clear hp
      have hlti : (k : Int) < (n0 : Int) := by omega
      have hcz : Below wr.heap.size wr wr.drew := (Below.refl _ _).drew
      have SS0 := HCZ.out _ hcz
      by_cases h0 : kidQ p = x.ky
      case neg =>
        have d1 : (kidQ p != x.ky) = true := by simp [h0]
        have HN2 : Hid (NoK ks x.ky (k + 1)) := fun i hi => by
          by_cases e : i < k
          · exact HN.out i e
          · obtain rfl : i = k := by omega
            rw [HQ.out]; exact h0
        clear h0
        go_upto_region 4 with fail
        go_region_held3 (fun W => W.cell? ⟨w.heap.size, 0, none⟩ = some (.int .u64 x.ky) ∧ W.cell? ⟨w.heap.size, 1, none⟩ = some (.int .i64 x.at2) ∧ W.cell? ⟨w.heap.size, 2, none⟩ = some (.slice ab nb cb) ∧ W.cell? ⟨pb, po + k * 3, none⟩ = some (.int .i64 p.1) ∧ W.cell? ⟨pb, po + k * 3 + 1, none⟩ = some (.int .u64 p.2.1) ∧ W.cell? ⟨pb, po + k * 3 + 2, none⟩ = some (.int .i64 p.2.2)) (first | assumption | exact SS0 | exact SS2)
          (first
            | (go_at_call 33; ((with_reducible refine (specKeyId_q p wr.drew hu hpb.1 hpb.2).mono ?_); rintro e w5 ⟨rfl, hb5⟩; have B5 : Below wr.heap.size wr w5 := keepT hcz hb5; have SS2 := HCZ.out _ B5; have BQ : Below wb.heap.size wb w5 := keepT hbr B5)))
        all_goals (
          go_wp2_with fail
          go_roundw
          case rel => exact ⟨k + 1, by omega, by go_num, HN2, BQ⟩
          case measure => simp [intOf]; omega)
      case pos =>
        have d1 : (kidQ p != x.ky) = false := by simp [h0]
        have HFP : Hid (fndK ks x.ky = some p) := by show _ = _; rw [fndK_at ks x.ky k (by rw [HLK.out]; exact hlt) (by rw [HQ.out]; exact h0) HN.out, HQ.out]
        clear h0
        obtain ⟨vq, hvq⟩ : ∃ vq, vq = decide (anyP p.1 p.2.1 p.2.2 bd x.sg) := ⟨_, rfl⟩
        have HVQ : Hid (decide (anyP p.1 p.2.1 p.2.2 bd x.sg) = vq) := hvq.symm
        have HVV : Hid (V = if vq = true then (if now < x.at2 then 3 else 0) else 2) := by show _ = _; rw [HSOME.out p HFP.out, hvq]; simp
        clear hvq
        go_upto_region 4 with fail
        go_region_held3 (fun W => W.cell? ⟨w.heap.size, 0, none⟩ = some (.int .u64 x.ky) ∧ W.cell? ⟨w.heap.size, 1, none⟩ = some (.int .i64 x.at2) ∧ W.cell? ⟨w.heap.size, 2, none⟩ = some (.slice ab nb cb) ∧ W.cell? ⟨pb, po + k * 3, none⟩ = some (.int .i64 p.1) ∧ W.cell? ⟨pb, po + k * 3 + 1, none⟩ = some (.int .u64 p.2.1) ∧ W.cell? ⟨pb, po + k * 3 + 2, none⟩ = some (.int .i64 p.2.2)) (first | assumption | exact SS0 | exact SS2)
          (first
            | (go_at_call 33; ((with_reducible refine (specKeyId_q p wr.drew hu hpb.1 hpb.2).mono ?_); rintro e w5 ⟨rfl, hb5⟩; have B5 : Below wr.heap.size wr w5 := keepT hcz hb5; have SS2 := HCZ.out _ B5)))
        all_goals (
          have hc5 : Below wr.heap.size wr w5.drew := B5.drew
          have SS3 := HCZ.out _ hc5
          clear SS0 SS2
          go_upto_region 5 with fail
          go_region_held3 (fun W => W.cell? ⟨w.heap.size, 0, none⟩ = some (.int .u64 x.ky) ∧ W.cell? ⟨w.heap.size, 1, none⟩ = some (.int .i64 x.at2) ∧ W.cell? ⟨w.heap.size, 2, none⟩ = some (.slice ab nb cb) ∧ W.cell? ⟨pb, po + k * 3, none⟩ = some (.int .i64 p.1) ∧ W.cell? ⟨pb, po + k * 3 + 1, none⟩ = some (.int .u64 p.2.1) ∧ W.cell? ⟨pb, po + k * 3 + 2, none⟩ = some (.int .i64 p.2.2)) (first | assumption | exact SS3 | exact SS4 | exact SS5)
            (first
              | (go_at_call 35; ((with_reducible refine (l17Body_any tag am nn cm ws x.at2 bd w5.drew (HR.out _ (keepT hbr hc5)).1 hc hn HE.out).mono ?_); rintro e w6 ⟨a6, c6, rfl, ho6, hb6⟩; have B6 : Below wr.heap.size wr w6 := keepT hc5 hb6; have SS4 := HCZ.out _ B6; have R6 : Hid (Row w6 a6 bd.length bd) := ho6.toRow; have hn6 : a6 = none → c6 = 0 := ho6.nil; clear ho6))
              | (go_at_call 34; ((with_reducible refine (specVerify_q p a6 bd.length c6 bd ab nb cb x.sg w6 hu R6.out (by omega) hn6 (HR.out _ (keepT hbr B6)).2.1 hnb hcb).mono ?_); rw [HVQ.out]; rintro e w7 ⟨rfl, hb7⟩; have B7 : Below wr.heap.size wr w7 := keepT B6 hb7; have SS5 := HCZ.out _ B7; have BQ : Below w.heap.size w w7 := keepT hbb (keepT hbr B7)))))
        all_goals (
          cases vq with
          | false =>
            have HV : Hid (V = 2) := by show _ = _; rw [HVV.out, if_neg (by decide)]
            go_wp2_with fail
            go_ret
            exact ⟨by rw [HV.out]; rfl, BQ⟩
          | true =>
            obtain ⟨_, q1, _⟩ := SS5
            by_cases hlate : now < x.at2
            · have HV : Hid (V = 3) := by show _ = _; rw [HVV.out, if_pos rfl, if_pos hlate]
              go_wp2_with fail
              go_ret
              exact ⟨by rw [HV.out]; rfl, BQ⟩
            · have HV : Hid (V = 0) := by show _ = _; rw [HVV.out, if_pos rfl, if_neg hlate]
              go_wp2_with fail
              go_ret
              exact ⟨by rw [HV.out]; rfl, BQ⟩)
    · obtain rfl : k = n0 := by omega
      have HV : Hid (V = 1) := HNONE.out (fndK_none ks x.ky (by rw [HLK.out]; exact HN.out))
      go_wp2
      go_ret
      exact ⟨by rw [HV.out]; rfl, keepT hbb hbr⟩

end Go.Proofs.YtkngnmnfkedfcaaGreat

