import Derived.Test.YtbfjkmlmnhphoaaDoorGCO7CO13
set_option linter.unusedVariables false
namespace Go.Proofs.YtbfjkmlmnhphoaaDoor
open Go.RowKit Go.Maps

/-- What is known of a region (RJ). -/
def enA (a1 : Option Addr) (n1 c1 : Nat) (a2 : Option Addr) (n2 c2 : Nat) (a3 : Option Addr) (n3 c3 : Nat) (x : CP) (cq : Bool) (G B : Nat) : RSpec where
  m := 22
  n := 23
  slots := [3, 4, 5, 6, 7, 8, 9, 10, 11, 12, 13, 14, 15, 16, 17, 18, 19, 20, 21, 22, 23, 2, 100022]
  kills := [[], [], [], [], [], [], [], [], [], [], [], [], [], [], [], [], [], [], [], [], [], [], []]
  pres := [[], [], [], [], [], [], [], [], [], [], [], [], [], [], [], [], [], [], [], [], [], [], []]
  fact := fun k v w => match k with
    | 0 => v = .pointer (some ⟨G, 7, none⟩)
    | 1 => v = .slice a2 n2 c2
    | 2 => v = .int .i64 n2
    | 3 => v = .bool false
    | 4 => v = .bool false
    | 5 => v = undef
    | 6 => v = undef
    | 7 => v = undef
    | 8 => v = undef
    | 9 => v = undef
    | 10 => v = .bool false
    | 11 => v = .bool false
    | 12 => v = undef
    | 13 => v = undef
    | 14 => v = undef
    | 15 => v = undef
    | 16 => v = undef
    | 17 => v = undef
    | 18 => v = undef
    | 19 => v = undef
    | 20 => v = .bool false
    | 21 => v = .bool false
    | _ => w.heap[G]? = some (.cells #[.slice a1 n1 c1, .int .i64 x.num, .int .i64 x.base, .int .i64 x.tm, .int .i64 x.next, .int .i64 x.scope, .bool x.ind, .slice a2 n2 c2, .slice a3 n3 c3] 36 (0, 0))
set_option linter.unusedVariables false in
theorem enA_stb (a1 : Option Addr) (n1 c1 : Nat) (a2 : Option Addr) (n2 c2 : Nat) (a3 : Option Addr) (n3 c3 : Nat) (x : CP) (cq : Bool) (G B : Nat) (k : Nat) (hk : k < 23) : StB ((enA a1 n1 c1 a2 n2 c2 a3 n3 c3 x cq G (B)).fact k) := by
  match k, hk with
  | 0, _ => exact fun _ _ _ h _ => h
  | 1, _ => exact fun _ _ _ h _ => h
  | 2, _ => exact fun _ _ _ h _ => h
  | 3, _ => exact fun _ _ _ h _ => h
  | 4, _ => exact fun _ _ _ h _ => h
  | 5, _ => exact fun _ _ _ h _ => h
  | 6, _ => exact fun _ _ _ h _ => h
  | 7, _ => exact fun _ _ _ h _ => h
  | 8, _ => exact fun _ _ _ h _ => h
  | 9, _ => exact fun _ _ _ h _ => h
  | 10, _ => exact fun _ _ _ h _ => h
  | 11, _ => exact fun _ _ _ h _ => h
  | 12, _ => exact fun _ _ _ h _ => h
  | 13, _ => exact fun _ _ _ h _ => h
  | 14, _ => exact fun _ _ _ h _ => h
  | 15, _ => exact fun _ _ _ h _ => h
  | 16, _ => exact fun _ _ _ h _ => h
  | 17, _ => exact fun _ _ _ h _ => h
  | 18, _ => exact fun _ _ _ h _ => h
  | 19, _ => exact fun _ _ _ h _ => h
  | 20, _ => exact fun _ _ _ h _ => h
  | 21, _ => exact fun _ _ _ h _ => h
  | 22, _ => exact fun _ _ _ q_0 hb => below_kept q_0 hb
  | k + 23, hk => omega
/-- What is known of a region (RJ). -/
def enB (a1 : Option Addr) (n1 c1 : Nat) (a2 : Option Addr) (n2 c2 : Nat) (a3 : Option Addr) (n3 c3 : Nat) (x : CP) (cq : Bool) (G B : Nat) : RSpec where
  m := 22
  n := 23
  slots := [3, 4, 5, 6, 7, 8, 9, 10, 11, 12, 13, 14, 15, 16, 17, 18, 19, 20, 21, 22, 23, 2, 100022]
  kills := [[], [], [], [], [], [], [], [], [], [], [], [], [], [], [], [], [], [], [], [], [], [], []]
  pres := [[], [], [], [], [], [], [], [], [], [], [], [], [], [], [], [], [], [], [], [], [], [], []]
  fact := fun k v w => match k with
    | 0 => v = .pointer (some ⟨G, 7, none⟩)
    | 1 => v = .slice a2 n2 c2
    | 2 => v = .int .i64 n2
    | 3 => v = .bool true
    | 4 => v = .bool true
    | 5 => v = .pointer (some ⟨G, 7, none⟩)
    | 6 => v = .slice a2 n2 c2
    | 7 => v = .agg #[.slice a1 n1 c1, .int .i64 x.num, .int .i64 x.base, .int .i64 x.tm, .int .i64 x.next, .int .i64 x.scope, .bool x.ind, .slice a2 n2 c2, .slice a3 n3 c3]
    | 8 => v = .func (Fn.func 71) #[.agg #[.slice a1 n1 c1, .int .i64 x.num, .int .i64 x.base, .int .i64 x.tm, .int .i64 x.next, .int .i64 x.scope, .bool x.ind, .slice a2 n2 c2, .slice a3 n3 c3]] #[]
    | 9 => v = .bool false
    | 10 => v = .bool false
    | 11 => v = .bool false
    | 12 => v = undef
    | 13 => v = undef
    | 14 => v = undef
    | 15 => v = undef
    | 16 => v = undef
    | 17 => v = undef
    | 18 => v = undef
    | 19 => v = undef
    | 20 => v = .bool false
    | 21 => v = .bool false
    | _ => w.heap[G]? = some (.cells #[.slice a1 n1 c1, .int .i64 x.num, .int .i64 x.base, .int .i64 x.tm, .int .i64 x.next, .int .i64 x.scope, .bool x.ind, .slice a2 n2 c2, .slice a3 n3 c3] 36 (0, 0))
set_option linter.unusedVariables false in
theorem enB_stb (a1 : Option Addr) (n1 c1 : Nat) (a2 : Option Addr) (n2 c2 : Nat) (a3 : Option Addr) (n3 c3 : Nat) (x : CP) (cq : Bool) (G B : Nat) (k : Nat) (hk : k < 23) : StB ((enB a1 n1 c1 a2 n2 c2 a3 n3 c3 x cq G (B)).fact k) := by
  match k, hk with
  | 0, _ => exact fun _ _ _ h _ => h
  | 1, _ => exact fun _ _ _ h _ => h
  | 2, _ => exact fun _ _ _ h _ => h
  | 3, _ => exact fun _ _ _ h _ => h
  | 4, _ => exact fun _ _ _ h _ => h
  | 5, _ => exact fun _ _ _ h _ => h
  | 6, _ => exact fun _ _ _ h _ => h
  | 7, _ => exact fun _ _ _ h _ => h
  | 8, _ => exact fun _ _ _ h _ => h
  | 9, _ => exact fun _ _ _ h _ => h
  | 10, _ => exact fun _ _ _ h _ => h
  | 11, _ => exact fun _ _ _ h _ => h
  | 12, _ => exact fun _ _ _ h _ => h
  | 13, _ => exact fun _ _ _ h _ => h
  | 14, _ => exact fun _ _ _ h _ => h
  | 15, _ => exact fun _ _ _ h _ => h
  | 16, _ => exact fun _ _ _ h _ => h
  | 17, _ => exact fun _ _ _ h _ => h
  | 18, _ => exact fun _ _ _ h _ => h
  | 19, _ => exact fun _ _ _ h _ => h
  | 20, _ => exact fun _ _ _ h _ => h
  | 21, _ => exact fun _ _ _ h _ => h
  | 22, _ => exact fun _ _ _ q_0 hb => below_kept q_0 hb
  | k + 23, hk => omega
/-- What is known of a region (RJ). -/
def enC (a1 : Option Addr) (n1 c1 : Nat) (a2 : Option Addr) (n2 c2 : Nat) (a3 : Option Addr) (n3 c3 : Nat) (x : CP) (cq : Bool) (G B : Nat) : RSpec where
  m := 22
  n := 23
  slots := [3, 4, 5, 6, 7, 8, 9, 10, 11, 12, 13, 14, 15, 16, 17, 18, 19, 20, 21, 22, 23, 2, 100022]
  kills := [[], [], [], [], [], [], [], [], [], [], [], [], [], [], [], [], [], [], [], [], [], [], []]
  pres := [[], [], [], [], [], [], [], [], [], [], [], [], [], [], [], [], [], [], [], [], [], [], []]
  fact := fun k v w => match k with
    | 0 => v = .pointer (some ⟨G, 7, none⟩)
    | 1 => v = .slice a2 n2 c2
    | 2 => v = .int .i64 n2
    | 3 => v = .bool true
    | 4 => v = .bool true
    | 5 => v = .pointer (some ⟨G, 7, none⟩)
    | 6 => v = .slice a2 n2 c2
    | 7 => v = .agg #[.slice a1 n1 c1, .int .i64 x.num, .int .i64 x.base, .int .i64 x.tm, .int .i64 x.next, .int .i64 x.scope, .bool x.ind, .slice a2 n2 c2, .slice a3 n3 c3]
    | 8 => v = .func (Fn.func 71) #[.agg #[.slice a1 n1 c1, .int .i64 x.num, .int .i64 x.base, .int .i64 x.tm, .int .i64 x.next, .int .i64 x.scope, .bool x.ind, .slice a2 n2 c2, .slice a3 n3 c3]] #[]
    | 9 => v = .bool true
    | 10 => v = .bool true
    | 11 => v = .bool true
    | 12 => v = .pointer (some ⟨G, 7, none⟩)
    | 13 => v = .slice a2 n2 c2
    | 14 => ∃ gb, v = .map (some gb) ∧ MpO gb n2 (Sn x.ents n2) w
    | 15 => v = .int .i64 (Maps.size (Sn x.ents n2))
    | 16 => v = .pointer (some ⟨G, 7, none⟩)
    | 17 => v = .slice a2 n2 c2
    | 18 => v = .int .i64 n2
    | 19 => v = .bool cq
    | 20 => v = .bool cq
    | 21 => v = .bool cq
    | _ => w.heap[G]? = some (.cells #[.slice a1 n1 c1, .int .i64 x.num, .int .i64 x.base, .int .i64 x.tm, .int .i64 x.next, .int .i64 x.scope, .bool x.ind, .slice a2 n2 c2, .slice a3 n3 c3] 36 (0, 0))
set_option linter.unusedVariables false in
theorem enC_stb (a1 : Option Addr) (n1 c1 : Nat) (a2 : Option Addr) (n2 c2 : Nat) (a3 : Option Addr) (n3 c3 : Nat) (x : CP) (cq : Bool) (G B : Nat) (k : Nat) (hk : k < 23) : StB ((enC a1 n1 c1 a2 n2 c2 a3 n3 c3 x cq G (B)).fact k) := by
  match k, hk with
  | 0, _ => exact fun _ _ _ h _ => h
  | 1, _ => exact fun _ _ _ h _ => h
  | 2, _ => exact fun _ _ _ h _ => h
  | 3, _ => exact fun _ _ _ h _ => h
  | 4, _ => exact fun _ _ _ h _ => h
  | 5, _ => exact fun _ _ _ h _ => h
  | 6, _ => exact fun _ _ _ h _ => h
  | 7, _ => exact fun _ _ _ h _ => h
  | 8, _ => exact fun _ _ _ h _ => h
  | 9, _ => exact fun _ _ _ h _ => h
  | 10, _ => exact fun _ _ _ h _ => h
  | 11, _ => exact fun _ _ _ h _ => h
  | 12, _ => exact fun _ _ _ h _ => h
  | 13, _ => exact fun _ _ _ h _ => h
  | 14, _ => exact fun _ _ _ ⟨gb, hv, q_0⟩ hb => ⟨gb, hv, q_0.kept hb⟩
  | 15, _ => exact fun _ _ _ h _ => h
  | 16, _ => exact fun _ _ _ h _ => h
  | 17, _ => exact fun _ _ _ h _ => h
  | 18, _ => exact fun _ _ _ h _ => h
  | 19, _ => exact fun _ _ _ h _ => h
  | 20, _ => exact fun _ _ _ h _ => h
  | 21, _ => exact fun _ _ _ h _ => h
  | 22, _ => exact fun _ _ _ q_0 hb => below_kept q_0 hb
  | k + 23, hk => omega

set_option maxRecDepth 10000 in
set_option maxHeartbeats 4000000 in
theorem entriesOk_any (a1 : Option Addr) (n1 c1 : Nat) (a2 : Option Addr) (n2 c2 : Nat) (a3 : Option Addr) (n3 c3 : Nat) (x : CP) (w : World) (htab : Lib.TabIs Tryd.prog w "internal/strconv.uint64pow10" .u64 Lib.pow10Tab) (h : Gns w a2 n2 x.ents) (hz : ∀ k, k < n2 → GpOk (x.ents.getD k default)) (hb : -1 ≤ x.base) (hs0 : 2 ≤ x.scope) (hs1 : x.scope ≤ 126) (ht : timeP x.tm) :
    Calls Tryd.prog 39 #[crv a1 n1 c1 a2 n2 c2 a3 n3 c3 x] w (Says (n2 ≤ 60 ∧ (∀ k, k < n2 → entP x (x.ents.getD k default)) ∧ Maps.size (Sn x.ents n2) = n2) w) := by
  have hev : ∀ W, Below w.heap.size w W → Calls Tryd.prog 70 #[.slice a2 n2 c2, .func (Fn.func 71) #[crv a1 n1 c1 a2 n2 c2 a3 n3 c3 x] #[]] W (Says (∀ k, k < n2 → entP x (x.ents.getD k default)) W) := fun W hW => everyGone_any (crv a1 n1 c1 a2 n2 c2 a3 n3 c3 x) (entP x) a2 n2 c2 x.ents W (h.kept hW) hz (fun W2 an nn cn y hp hq => entryOk_any a1 n1 c1 a2 n2 c2 a3 n3 c3 x an nn cn y W2 hp hq hb hs0 hs1 ht)
  have hbk : (∀ k, k < n2 → entP x (x.ents.getD k default)) → n2 ≤ 60 → ∀ W, Below w.heap.size w W → Calls Tryd.prog 72 #[.slice a2 n2 c2] W fun e w' => ∃ gb, e = .returned (.map (some gb)) ∧ MpO gb n2 (Sn x.ents n2) w' ∧ Below W.heap.size W w' := fun he hn W hW => (byKey_any a2 n2 c2 x.ents W (Lib.tabBelow_of_tabIs htab W hW) (h.kept hW) (by omega) (fun k hk => ⟨entP_name (he k hk), WalkArith.wf_i64 (by have := (he k hk).1; omega)⟩)).mono (fun e w' q => ⟨_, q.1, q.2.1, q.2.2⟩)
  unfold crv at hev ⊢
  obtain ⟨w0, hw0⟩ : ∃ w0, w0 = w.alloc (.cells #[.slice a1 n1 c1, .int .i64 x.num, .int .i64 x.base, .int .i64 x.tm, .int .i64 x.next, .int .i64 x.scope, .bool x.ind, .slice a2 n2 c2, .slice a3 n3 c3] 36) := ⟨_, rfl⟩
  have hB0 : Below w.heap.size w w0 := by rw [hw0]; exact (Below.refl _ _).alloc (Nat.le_refl _) _
  have HH0 : Hid (w0.heap[w.heap.size]? = some (.cells #[.slice a1 n1 c1, .int .i64 x.num, .int .i64 x.base, .int .i64 x.tm, .int .i64 x.next, .int .i64 x.scope, .bool x.ind, .slice a2 n2 c2, .slice a3 n3 c3] 36)) := by show _ = _; rw [hw0]; exact heap_alloc_new w _
  have HW : Hid (_ = _) := hw0
  clear hw0 htab h hz hb hs0 hs1 ht
  by_cases h60 : n2 ≤ 60
  case neg =>
    have HN : Hid (¬ (n2 ≤ 60 ∧ (∀ k, k < n2 → entP x (x.ents.getD k default)) ∧ Maps.size (Sn x.ents n2) = n2)) := fun q => h60 q.1
    have HLE60 : Hid (decide ((n2 : Int) ≤ 60) = false) := decide_eq_false (by omega)
    obtain ⟨cq, hcq⟩ : ∃ cq : Bool, cq = true := ⟨_, rfl⟩
    clear hev hbk h60 hcq
    have HBB : w0.heap.size ≤ w0.heap.size := Nat.le_refl _
    go_enter Tryd.func39, Tryd.ntmps39
    go_upto_region 1 with fail
    rw [← HW.out]
    clear HW
    refine wp_region_rk (enA a1 n1 c1 a2 n2 c2 a3 n3 c3 x cq w.heap.size (w0.heap.size)) [2, 3, 4, 5, 6, 7, 8, 9, 10, 11, 12, 13, 14, 15, 16, 17, 18, 19, 20, 21, 22, 23] (w0.heap.size) (fun a0 => a0.tmps.size = 24 ∧ aT a0 1 = .pointer (some ⟨w.heap.size, 0, none⟩)) (by kernel_rfl) rfl (by kernel_rfl) rfl ⟨rfl, rfl⟩ (enA_stb a1 n1 c1 a2 n2 c2 a3 n3 c3 x cq w.heap.size (w0.heap.size)) ?_ ?_ ?_
    · intro k hk hk2
      match k, hk, hk2 with
      | 22, _, _ => exact HH0.out
      | 0, hk, _ => exact absurd hk (by show ¬ (22 ≤ 0); omega)
      | 1, hk, _ => exact absurd hk (by show ¬ (22 ≤ 1); omega)
      | 2, hk, _ => exact absurd hk (by show ¬ (22 ≤ 2); omega)
      | 3, hk, _ => exact absurd hk (by show ¬ (22 ≤ 3); omega)
      | 4, hk, _ => exact absurd hk (by show ¬ (22 ≤ 4); omega)
      | 5, hk, _ => exact absurd hk (by show ¬ (22 ≤ 5); omega)
      | 6, hk, _ => exact absurd hk (by show ¬ (22 ≤ 6); omega)
      | 7, hk, _ => exact absurd hk (by show ¬ (22 ≤ 7); omega)
      | 8, hk, _ => exact absurd hk (by show ¬ (22 ≤ 8); omega)
      | 9, hk, _ => exact absurd hk (by show ¬ (22 ≤ 9); omega)
      | 10, hk, _ => exact absurd hk (by show ¬ (22 ≤ 10); omega)
      | 11, hk, _ => exact absurd hk (by show ¬ (22 ≤ 11); omega)
      | 12, hk, _ => exact absurd hk (by show ¬ (22 ≤ 12); omega)
      | 13, hk, _ => exact absurd hk (by show ¬ (22 ≤ 13); omega)
      | 14, hk, _ => exact absurd hk (by show ¬ (22 ≤ 14); omega)
      | 15, hk, _ => exact absurd hk (by show ¬ (22 ≤ 15); omega)
      | 16, hk, _ => exact absurd hk (by show ¬ (22 ≤ 16); omega)
      | 17, hk, _ => exact absurd hk (by show ¬ (22 ≤ 17); omega)
      | 18, hk, _ => exact absurd hk (by show ¬ (22 ≤ 18); omega)
      | 19, hk, _ => exact absurd hk (by show ¬ (22 ≤ 19); omega)
      | 20, hk, _ => exact absurd hk (by show ¬ (22 ≤ 20); omega)
      | 21, hk, _ => exact absurd hk (by show ¬ (22 ≤ 21); omega)
      | k + 23, _, hk2 => exact absurd hk2 (by show ¬ (k + 23 < 23); omega)
    · rintro a0 ⟨hz, g1⟩
      refine StepsRK.cons ?_ (StepsRK.cons ?_ (StepsRK.cons ?_ (StepsRK.cons ?_ (StepsRK.cons ?_ (StepsRK.cons ?_ (StepsRK.cons ?_ (StepsRK.cons ?_ (StepsRK.cons ?_ (StepsRK.cons ?_ (StepsRK.cons ?_ (StepsRK.cons ?_ (StepsRK.cons ?_ (StepsRK.cons ?_ (StepsRK.cons ?_ (StepsRK.cons ?_ (StepsRK.cons ?_ (StepsRK.cons ?_ (StepsRK.cons ?_ (StepsRK.cons ?_ (StepsRK.cons ?_ (StepsRK.cons ?_ (StepsRK.nil))))))))))))))))))))))
      · intro lQ b W hI hUN hED KQ hKQ
        refine rk_plain rfl ?_
        exact opw_field 36 1 7 rfl _ ((hI.fr.same 1 (by decide)).trans g1) _ (by kernel_rfl) (hKQ.out _ _ (hI.put 0 3 rfl rfl (by rw [hz]; decide) rfl hUN rfl HBB (enA_stb a1 n1 c1 a2 n2 c2 a3 n3 c3 x cq w.heap.size (w0.heap.size)) (Below.refl _ _) rfl))
      · intro lQ b W hI hUN hED KQ hKQ
        refine rk_plain rfl ?_
        have f := hI.got 0 (of_decide_eq_true rfl) (edge hED 0 (by kernel_rfl)) rfl
        have hg := (hI.vot 22 (of_decide_eq_true rfl) (of_decide_eq_true rfl) rfl)
        have hc : W.cell? ⟨w.heap.size, 7, none⟩ = some (.slice a2 n2 c2) := (cell_of_row _ _ 7 _ _ (0, 0) hg).trans rfl
        exact opw_load1 34 3 rfl _ f _ (by simp [Instr.loadAt, go_sem, hc]) (hKQ.out _ _ (hI.put 1 4 rfl rfl (by rw [hz]; decide) rfl hUN rfl HBB (enA_stb a1 n1 c1 a2 n2 c2 a3 n3 c3 x cq w.heap.size (w0.heap.size)) (Below.refl _ _) rfl))
      · intro lQ b W hI hUN hED KQ hKQ
        refine rk_plain rfl ?_
        have f : aT b 4 = .slice a2 n2 c2 := hI.got 1 (of_decide_eq_true rfl) (edge hED 1 (by kernel_rfl)) rfl
        exact opw_len 4 _ _ rfl Tryd.underlying34 _ _ _ f (hKQ.out _ _ (hI.put 2 5 rfl rfl (by rw [hz]; decide) rfl hUN rfl HBB (enA_stb a1 n1 c1 a2 n2 c2 a3 n3 c3 x cq w.heap.size (w0.heap.size)) (Below.refl _ _) rfl))
      · intro lQ b W hI hUN hED KQ hKQ
        refine rk_plain rfl ?_
        have f : aT b 5 = .int .i64 n2 := hI.got 2 (of_decide_eq_true rfl) (edge hED 2 (by kernel_rfl)) rfl
        refine opw_leqc _ _ 5 60 rfl _ f ?_
        rw [HLE60.out]
        exact hKQ.out _ _ (hI.put 3 6 rfl rfl (by rw [hz]; decide) rfl hUN rfl HBB (enA_stb a1 n1 c1 a2 n2 c2 a3 n3 c3 x cq w.heap.size (w0.heap.size)) (Below.refl _ _) rfl)
      · intro lQ b W hI hUN hED KQ hKQ
        refine rk_plain rfl ?_
        have f := hI.got 3 (of_decide_eq_true rfl) (edge hED 3 (by kernel_rfl)) rfl
        exact opw_move 6 rfl (hKQ.out _ _ (hI.put 4 7 rfl rfl (by rw [hz]; decide) rfl hUN rfl HBB (enA_stb a1 n1 c1 a2 n2 c2 a3 n3 c3 x cq w.heap.size (w0.heap.size)) (Below.refl _ _) f))
      · intro lQ b W hI hUN hED KQ hKQ
        exact rk_skip 4 true 7 (.bool false) rfl rfl (hI.got 4 (of_decide_eq_true rfl) (edge hED 4 (by kernel_rfl)) rfl) rfl (hKQ.out _ _ (hI.put 5 8 rfl rfl (by rw [hz]; decide) rfl hUN rfl HBB (enA_stb a1 n1 c1 a2 n2 c2 a3 n3 c3 x cq w.heap.size (w0.heap.size)) (Below.refl _ _) rfl))
      · intro lQ b W hI hUN hED KQ hKQ
        exact rk_skip 4 true 7 (.bool false) rfl rfl (hI.got 4 (of_decide_eq_true rfl) (edge hED 4 (by kernel_rfl)) rfl) rfl (hKQ.out _ _ (hI.put 6 9 rfl rfl (by rw [hz]; decide) rfl hUN rfl HBB (enA_stb a1 n1 c1 a2 n2 c2 a3 n3 c3 x cq w.heap.size (w0.heap.size)) (Below.refl _ _) rfl))
      · intro lQ b W hI hUN hED KQ hKQ
        exact rk_skip 4 true 7 (.bool false) rfl rfl (hI.got 4 (of_decide_eq_true rfl) (edge hED 4 (by kernel_rfl)) rfl) rfl (hKQ.out _ _ (hI.put 7 10 rfl rfl (by rw [hz]; decide) rfl hUN rfl HBB (enA_stb a1 n1 c1 a2 n2 c2 a3 n3 c3 x cq w.heap.size (w0.heap.size)) (Below.refl _ _) rfl))
      · intro lQ b W hI hUN hED KQ hKQ
        exact rk_skip 4 true 7 (.bool false) rfl rfl (hI.got 4 (of_decide_eq_true rfl) (edge hED 4 (by kernel_rfl)) rfl) rfl (hKQ.out _ _ (hI.put 8 11 rfl rfl (by rw [hz]; decide) rfl hUN rfl HBB (enA_stb a1 n1 c1 a2 n2 c2 a3 n3 c3 x cq w.heap.size (w0.heap.size)) (Below.refl _ _) rfl))
      · intro lQ b W hI hUN hED KQ hKQ
        exact rk_skip 4 true 7 (.bool false) rfl rfl (hI.got 4 (of_decide_eq_true rfl) (edge hED 4 (by kernel_rfl)) rfl) rfl (hKQ.out _ _ (hI.put 9 12 rfl rfl (by rw [hz]; decide) rfl hUN rfl HBB (enA_stb a1 n1 c1 a2 n2 c2 a3 n3 c3 x cq w.heap.size (w0.heap.size)) (Below.refl _ _) rfl))
      · intro lQ b W hI hUN hED KQ hKQ
        refine rk_plain rfl ?_
        have fc : aT b 7 = .bool false := hI.got 4 (of_decide_eq_true rfl) (edge hED 4 (by kernel_rfl)) rfl
        exact opw_pick_f 7 _ _ rfl fc _ rfl (hKQ.out _ _ (hI.put 10 13 rfl rfl (by rw [hz]; decide) rfl hUN rfl HBB (enA_stb a1 n1 c1 a2 n2 c2 a3 n3 c3 x cq w.heap.size (w0.heap.size)) (Below.refl _ _) rfl))
      · intro lQ b W hI hUN hED KQ hKQ
        refine rk_plain rfl ?_
        have f := hI.got 10 (of_decide_eq_true rfl) (edge hED 10 (by kernel_rfl)) rfl
        exact opw_move 13 rfl (hKQ.out _ _ (hI.put 11 14 rfl rfl (by rw [hz]; decide) rfl hUN rfl HBB (enA_stb a1 n1 c1 a2 n2 c2 a3 n3 c3 x cq w.heap.size (w0.heap.size)) (Below.refl _ _) f))
      · intro lQ b W hI hUN hED KQ hKQ
        exact rk_skip 11 true 14 (.bool false) rfl rfl (hI.got 11 (of_decide_eq_true rfl) (edge hED 11 (by kernel_rfl)) rfl) rfl (hKQ.out _ _ (hI.put 12 15 rfl rfl (by rw [hz]; decide) rfl hUN rfl HBB (enA_stb a1 n1 c1 a2 n2 c2 a3 n3 c3 x cq w.heap.size (w0.heap.size)) (Below.refl _ _) rfl))
      · intro lQ b W hI hUN hED KQ hKQ
        exact rk_skip 11 true 14 (.bool false) rfl rfl (hI.got 11 (of_decide_eq_true rfl) (edge hED 11 (by kernel_rfl)) rfl) rfl (hKQ.out _ _ (hI.put 13 16 rfl rfl (by rw [hz]; decide) rfl hUN rfl HBB (enA_stb a1 n1 c1 a2 n2 c2 a3 n3 c3 x cq w.heap.size (w0.heap.size)) (Below.refl _ _) rfl))
      · intro lQ b W hI hUN hED KQ hKQ
        exact rk_skip 11 true 14 (.bool false) rfl rfl (hI.got 11 (of_decide_eq_true rfl) (edge hED 11 (by kernel_rfl)) rfl) rfl (hKQ.out _ _ (hI.put 14 17 rfl rfl (by rw [hz]; decide) rfl hUN rfl HBB (enA_stb a1 n1 c1 a2 n2 c2 a3 n3 c3 x cq w.heap.size (w0.heap.size)) (Below.refl _ _) rfl))
      · intro lQ b W hI hUN hED KQ hKQ
        exact rk_skip 11 true 14 (.bool false) rfl rfl (hI.got 11 (of_decide_eq_true rfl) (edge hED 11 (by kernel_rfl)) rfl) rfl (hKQ.out _ _ (hI.put 15 18 rfl rfl (by rw [hz]; decide) rfl hUN rfl HBB (enA_stb a1 n1 c1 a2 n2 c2 a3 n3 c3 x cq w.heap.size (w0.heap.size)) (Below.refl _ _) rfl))
      · intro lQ b W hI hUN hED KQ hKQ
        exact rk_skip 11 true 14 (.bool false) rfl rfl (hI.got 11 (of_decide_eq_true rfl) (edge hED 11 (by kernel_rfl)) rfl) rfl (hKQ.out _ _ (hI.put 16 19 rfl rfl (by rw [hz]; decide) rfl hUN rfl HBB (enA_stb a1 n1 c1 a2 n2 c2 a3 n3 c3 x cq w.heap.size (w0.heap.size)) (Below.refl _ _) rfl))
      · intro lQ b W hI hUN hED KQ hKQ
        exact rk_skip 11 true 14 (.bool false) rfl rfl (hI.got 11 (of_decide_eq_true rfl) (edge hED 11 (by kernel_rfl)) rfl) rfl (hKQ.out _ _ (hI.put 17 20 rfl rfl (by rw [hz]; decide) rfl hUN rfl HBB (enA_stb a1 n1 c1 a2 n2 c2 a3 n3 c3 x cq w.heap.size (w0.heap.size)) (Below.refl _ _) rfl))
      · intro lQ b W hI hUN hED KQ hKQ
        exact rk_skip 11 true 14 (.bool false) rfl rfl (hI.got 11 (of_decide_eq_true rfl) (edge hED 11 (by kernel_rfl)) rfl) rfl (hKQ.out _ _ (hI.put 18 21 rfl rfl (by rw [hz]; decide) rfl hUN rfl HBB (enA_stb a1 n1 c1 a2 n2 c2 a3 n3 c3 x cq w.heap.size (w0.heap.size)) (Below.refl _ _) rfl))
      · intro lQ b W hI hUN hED KQ hKQ
        exact rk_skip 11 true 14 (.bool false) rfl rfl (hI.got 11 (of_decide_eq_true rfl) (edge hED 11 (by kernel_rfl)) rfl) rfl (hKQ.out _ _ (hI.put 19 22 rfl rfl (by rw [hz]; decide) rfl hUN rfl HBB (enA_stb a1 n1 c1 a2 n2 c2 a3 n3 c3 x cq w.heap.size (w0.heap.size)) (Below.refl _ _) rfl))
      · intro lQ b W hI hUN hED KQ hKQ
        refine rk_plain rfl ?_
        have fc : aT b 14 = .bool false := hI.got 11 (of_decide_eq_true rfl) (edge hED 11 (by kernel_rfl)) rfl
        exact opw_pick_f 14 _ _ rfl fc _ rfl (hKQ.out _ _ (hI.put 20 23 rfl rfl (by rw [hz]; decide) rfl hUN rfl HBB (enA_stb a1 n1 c1 a2 n2 c2 a3 n3 c3 x cq w.heap.size (w0.heap.size)) (Below.refl _ _) rfl))
      · intro lQ b W hI hUN hED KQ hKQ
        refine rk_plain rfl ?_
        have f := hI.got 20 (of_decide_eq_true rfl) (edge hED 20 (by kernel_rfl)) rfl
        exact opw_assign 23 rfl (hKQ.out _ _ (hI.put 21 2 rfl rfl (by rw [hz]; decide) rfl hUN rfl HBB (enA_stb a1 n1 c1 a2 n2 c2 a3 n3 c3 x cq w.heap.size (w0.heap.size)) (Below.refl _ _) f))
    · intro b W hf hb F
      have e2 : aT b 2 = .bool false := F 21 (of_decide_eq_true rfl) rfl
      rw [hf.eq]
      simp only [puts, Act.put, List.setIfInBounds_toArray, List.set_cons_zero, List.set_cons_succ, e2]
      clear hf F e2
      generalize aT b = AT
      clear b
      go_wp2
      go_ret
      exact says_f HN.out (hB0.trans (hb.mono hB0.size))
  have HLE60 : Hid (decide ((n2 : Int) ≤ 60) = true) := decide_eq_true (by omega)
  by_cases hall : ∀ k, k < n2 → entP x (x.ents.getD k default)
  case neg =>
    have HN : Hid (¬ (n2 ≤ 60 ∧ (∀ k, k < n2 → entP x (x.ents.getD k default)) ∧ Maps.size (Sn x.ents n2) = n2)) := fun q => hall q.2.1
    have HEV : Hid (∀ W, Below w0.heap.size w0 W → Calls Tryd.prog 70 #[.slice a2 n2 c2, .func (Fn.func 71) #[.agg #[.slice a1 n1 c1, .int .i64 x.num, .int .i64 x.base, .int .i64 x.tm, .int .i64 x.next, .int .i64 x.scope, .bool x.ind, .slice a2 n2 c2, .slice a3 n3 c3]] #[]] W fun e w' => e = .returned (.bool false) ∧ Below W.heap.size W w') := fun W hW => (hev W (hB0.trans (hW.mono hB0.size))).mono (fun e w' q => by
      obtain ⟨v, e1, e2, e3⟩ := q
      cases v with
      | false => exact ⟨e1, e3⟩
      | true => exact absurd (e2.out.1 rfl) hall)
    obtain ⟨cq, hcq⟩ : ∃ cq : Bool, cq = true := ⟨_, rfl⟩
    clear hev hbk h60 hall hcq
    have HBB : w0.heap.size ≤ w0.heap.size := Nat.le_refl _
    go_enter Tryd.func39, Tryd.ntmps39
    go_upto_region 1 with fail
    rw [← HW.out]
    clear HW
    refine wp_region_rk (enB a1 n1 c1 a2 n2 c2 a3 n3 c3 x cq w.heap.size (w0.heap.size)) [2, 3, 4, 5, 6, 7, 8, 9, 10, 11, 12, 13, 14, 15, 16, 17, 18, 19, 20, 21, 22, 23] (w0.heap.size) (fun a0 => a0.tmps.size = 24 ∧ aT a0 1 = .pointer (some ⟨w.heap.size, 0, none⟩)) (by kernel_rfl) rfl (by kernel_rfl) rfl ⟨rfl, rfl⟩ (enB_stb a1 n1 c1 a2 n2 c2 a3 n3 c3 x cq w.heap.size (w0.heap.size)) ?_ ?_ ?_
    · intro k hk hk2
      match k, hk, hk2 with
      | 22, _, _ => exact HH0.out
      | 0, hk, _ => exact absurd hk (by show ¬ (22 ≤ 0); omega)
      | 1, hk, _ => exact absurd hk (by show ¬ (22 ≤ 1); omega)
      | 2, hk, _ => exact absurd hk (by show ¬ (22 ≤ 2); omega)
      | 3, hk, _ => exact absurd hk (by show ¬ (22 ≤ 3); omega)
      | 4, hk, _ => exact absurd hk (by show ¬ (22 ≤ 4); omega)
      | 5, hk, _ => exact absurd hk (by show ¬ (22 ≤ 5); omega)
      | 6, hk, _ => exact absurd hk (by show ¬ (22 ≤ 6); omega)
      | 7, hk, _ => exact absurd hk (by show ¬ (22 ≤ 7); omega)
      | 8, hk, _ => exact absurd hk (by show ¬ (22 ≤ 8); omega)
      | 9, hk, _ => exact absurd hk (by show ¬ (22 ≤ 9); omega)
      | 10, hk, _ => exact absurd hk (by show ¬ (22 ≤ 10); omega)
      | 11, hk, _ => exact absurd hk (by show ¬ (22 ≤ 11); omega)
      | 12, hk, _ => exact absurd hk (by show ¬ (22 ≤ 12); omega)
      | 13, hk, _ => exact absurd hk (by show ¬ (22 ≤ 13); omega)
      | 14, hk, _ => exact absurd hk (by show ¬ (22 ≤ 14); omega)
      | 15, hk, _ => exact absurd hk (by show ¬ (22 ≤ 15); omega)
      | 16, hk, _ => exact absurd hk (by show ¬ (22 ≤ 16); omega)
      | 17, hk, _ => exact absurd hk (by show ¬ (22 ≤ 17); omega)
      | 18, hk, _ => exact absurd hk (by show ¬ (22 ≤ 18); omega)
      | 19, hk, _ => exact absurd hk (by show ¬ (22 ≤ 19); omega)
      | 20, hk, _ => exact absurd hk (by show ¬ (22 ≤ 20); omega)
      | 21, hk, _ => exact absurd hk (by show ¬ (22 ≤ 21); omega)
      | k + 23, _, hk2 => exact absurd hk2 (by show ¬ (k + 23 < 23); omega)
    · rintro a0 ⟨hz, g1⟩
      refine StepsRK.cons ?_ (StepsRK.cons ?_ (StepsRK.cons ?_ (StepsRK.cons ?_ (StepsRK.cons ?_ (StepsRK.cons ?_ (StepsRK.cons ?_ (StepsRK.cons ?_ (StepsRK.cons ?_ (StepsRK.cons ?_ (StepsRK.cons ?_ (StepsRK.cons ?_ (StepsRK.cons ?_ (StepsRK.cons ?_ (StepsRK.cons ?_ (StepsRK.cons ?_ (StepsRK.cons ?_ (StepsRK.cons ?_ (StepsRK.cons ?_ (StepsRK.cons ?_ (StepsRK.cons ?_ (StepsRK.cons ?_ (StepsRK.nil))))))))))))))))))))))
      · intro lQ b W hI hUN hED KQ hKQ
        refine rk_plain rfl ?_
        exact opw_field 36 1 7 rfl _ ((hI.fr.same 1 (by decide)).trans g1) _ (by kernel_rfl) (hKQ.out _ _ (hI.put 0 3 rfl rfl (by rw [hz]; decide) rfl hUN rfl HBB (enB_stb a1 n1 c1 a2 n2 c2 a3 n3 c3 x cq w.heap.size (w0.heap.size)) (Below.refl _ _) rfl))
      · intro lQ b W hI hUN hED KQ hKQ
        refine rk_plain rfl ?_
        have f := hI.got 0 (of_decide_eq_true rfl) (edge hED 0 (by kernel_rfl)) rfl
        have hg := (hI.vot 22 (of_decide_eq_true rfl) (of_decide_eq_true rfl) rfl)
        have hc : W.cell? ⟨w.heap.size, 7, none⟩ = some (.slice a2 n2 c2) := (cell_of_row _ _ 7 _ _ (0, 0) hg).trans rfl
        exact opw_load1 34 3 rfl _ f _ (by simp [Instr.loadAt, go_sem, hc]) (hKQ.out _ _ (hI.put 1 4 rfl rfl (by rw [hz]; decide) rfl hUN rfl HBB (enB_stb a1 n1 c1 a2 n2 c2 a3 n3 c3 x cq w.heap.size (w0.heap.size)) (Below.refl _ _) rfl))
      · intro lQ b W hI hUN hED KQ hKQ
        refine rk_plain rfl ?_
        have f : aT b 4 = .slice a2 n2 c2 := hI.got 1 (of_decide_eq_true rfl) (edge hED 1 (by kernel_rfl)) rfl
        exact opw_len 4 _ _ rfl Tryd.underlying34 _ _ _ f (hKQ.out _ _ (hI.put 2 5 rfl rfl (by rw [hz]; decide) rfl hUN rfl HBB (enB_stb a1 n1 c1 a2 n2 c2 a3 n3 c3 x cq w.heap.size (w0.heap.size)) (Below.refl _ _) rfl))
      · intro lQ b W hI hUN hED KQ hKQ
        refine rk_plain rfl ?_
        have f : aT b 5 = .int .i64 n2 := hI.got 2 (of_decide_eq_true rfl) (edge hED 2 (by kernel_rfl)) rfl
        refine opw_leqc _ _ 5 60 rfl _ f ?_
        rw [HLE60.out]
        exact hKQ.out _ _ (hI.put 3 6 rfl rfl (by rw [hz]; decide) rfl hUN rfl HBB (enB_stb a1 n1 c1 a2 n2 c2 a3 n3 c3 x cq w.heap.size (w0.heap.size)) (Below.refl _ _) rfl)
      · intro lQ b W hI hUN hED KQ hKQ
        refine rk_plain rfl ?_
        have f := hI.got 3 (of_decide_eq_true rfl) (edge hED 3 (by kernel_rfl)) rfl
        exact opw_move 6 rfl (hKQ.out _ _ (hI.put 4 7 rfl rfl (by rw [hz]; decide) rfl hUN rfl HBB (enB_stb a1 n1 c1 a2 n2 c2 a3 n3 c3 x cq w.heap.size (w0.heap.size)) (Below.refl _ _) f))
      · intro lQ b W hI hUN hED KQ hKQ
        refine rk_take 4 true 7 rfl rfl (hI.got 4 (of_decide_eq_true rfl) (edge hED 4 (by kernel_rfl)) rfl) ?_
        exact opw_field 36 1 7 rfl _ ((hI.fr.same 1 (by decide)).trans g1) _ (by kernel_rfl) (hKQ.out _ _ (hI.put 5 8 rfl rfl (by rw [hz]; decide) rfl hUN rfl HBB (enB_stb a1 n1 c1 a2 n2 c2 a3 n3 c3 x cq w.heap.size (w0.heap.size)) (Below.refl _ _) rfl))
      · intro lQ b W hI hUN hED KQ hKQ
        refine rk_take 4 true 7 rfl rfl (hI.got 4 (of_decide_eq_true rfl) (edge hED 4 (by kernel_rfl)) rfl) ?_
        have f := hI.got 5 (of_decide_eq_true rfl) (edge hED 5 (by kernel_rfl)) rfl
        have hg := (hI.vot 22 (of_decide_eq_true rfl) (of_decide_eq_true rfl) rfl)
        have hc : W.cell? ⟨w.heap.size, 7, none⟩ = some (.slice a2 n2 c2) := (cell_of_row _ _ 7 _ _ (0, 0) hg).trans rfl
        exact opw_load1 34 8 rfl _ f _ (by simp [Instr.loadAt, go_sem, hc]) (hKQ.out _ _ (hI.put 6 9 rfl rfl (by rw [hz]; decide) rfl hUN rfl HBB (enB_stb a1 n1 c1 a2 n2 c2 a3 n3 c3 x cq w.heap.size (w0.heap.size)) (Below.refl _ _) rfl))
      · intro lQ b W hI hUN hED KQ hKQ
        refine rk_take 4 true 7 rfl rfl (hI.got 4 (of_decide_eq_true rfl) (edge hED 4 (by kernel_rfl)) rfl) ?_
        have hg := (hI.vot 22 (of_decide_eq_true rfl) (of_decide_eq_true rfl) rfl)
        refine wp_load_row 36 _ rfl (w.heap.size) ((hI.fr.same 1 (by decide)).trans g1) 36 #[.slice a1 n1 c1, .int .i64 x.num, .int .i64 x.base, .int .i64 x.tm, .int .i64 x.next, .int .i64 x.scope, .bool x.ind, .slice a2 n2 c2, .slice a3 n3 c3] (0, 0) _ hg Tryd.underlying36 rfl (by kernel_rfl) ?_
        exact hKQ.out _ _ (hI.put 7 10 rfl rfl (by rw [hz]; decide) rfl hUN rfl HBB (enB_stb a1 n1 c1 a2 n2 c2 a3 n3 c3 x cq w.heap.size (w0.heap.size)) (Below.refl _ _) rfl)
      · intro lQ b W hI hUN hED KQ hKQ
        refine rk_take 4 true 7 rfl rfl (hI.got 4 (of_decide_eq_true rfl) (edge hED 4 (by kernel_rfl)) rfl) ?_
        have f : aT b 10 = .agg #[.slice a1 n1 c1, .int .i64 x.num, .int .i64 x.base, .int .i64 x.tm, .int .i64 x.next, .int .i64 x.scope, .bool x.ind, .slice a2 n2 c2, .slice a3 n3 c3] := hI.got 7 (of_decide_eq_true rfl) (edge hED 7 (by kernel_rfl)) rfl
        exact opw_makeFunc _ 10 rfl _ f (hKQ.out _ _ (hI.put 8 11 rfl rfl (by rw [hz]; decide) rfl hUN rfl HBB (enB_stb a1 n1 c1 a2 n2 c2 a3 n3 c3 x cq w.heap.size (w0.heap.size)) (Below.refl _ _) rfl))
      · intro lQ b W hI hUN hED KQ hKQ
        refine rk_take 4 true 7 rfl rfl (hI.got 4 (of_decide_eq_true rfl) (edge hED 4 (by kernel_rfl)) rfl) ?_
        have f0 := hI.got 6 (of_decide_eq_true rfl) (edge hED 6 (by kernel_rfl)) rfl
        replace f0 : aT b 9 = .slice a2 n2 c2 := f0
        have f1 := hI.got 8 (of_decide_eq_true rfl) (edge hED 8 (by kernel_rfl)) rfl
        replace f1 : aT b 11 = .func (Fn.func 71) #[.agg #[.slice a1 n1 c1, .int .i64 x.num, .int .i64 x.base, .int .i64 x.tm, .int .i64 x.next, .int .i64 x.scope, .bool x.ind, .slice a2 n2 c2, .slice a3 n3 c3]] #[] := f1
        refine opw_call 70 #[.tmp 9, .tmp 11] _ _ _ rfl Tryd.func70 (by kernel_rfl) rfl #[.slice a2 n2 c2, .func (Fn.func 71) #[.agg #[.slice a1 n1 c1, .int .i64 x.num, .int .i64 x.base, .int .i64 x.tm, .int .i64 x.next, .int .i64 x.scope, .bool x.ind, .slice a2 n2 c2, .slice a3 n3 c3]] #[]] (by simp [ev, f0, f1]) ?_
        refine (HEV.out W hI.bel).mono ?_
        rintro e W2 ⟨rfl, hb⟩
        exact ⟨_, rfl, hKQ.out _ _ (hI.put 9 12 rfl rfl (by rw [hz]; decide) rfl hUN rfl HBB (enB_stb a1 n1 c1 a2 n2 c2 a3 n3 c3 x cq w.heap.size (w0.heap.size)) hb rfl)⟩
      · intro lQ b W hI hUN hED KQ hKQ
        refine rk_plain rfl ?_
        have fc : aT b 7 = .bool true := hI.got 4 (of_decide_eq_true rfl) (edge hED 4 (by kernel_rfl)) rfl
        have f := hI.got 9 (of_decide_eq_true rfl) (edge hED 9 (by kernel_rfl)) rfl
        replace f : aT b 12 = .bool false := f
        exact opw_pick_t 7 _ _ rfl fc _ f (hKQ.out _ _ (hI.put 10 13 rfl rfl (by rw [hz]; decide) rfl hUN rfl HBB (enB_stb a1 n1 c1 a2 n2 c2 a3 n3 c3 x cq w.heap.size (w0.heap.size)) (Below.refl _ _) rfl))
      · intro lQ b W hI hUN hED KQ hKQ
        refine rk_plain rfl ?_
        have f := hI.got 10 (of_decide_eq_true rfl) (edge hED 10 (by kernel_rfl)) rfl
        exact opw_move 13 rfl (hKQ.out _ _ (hI.put 11 14 rfl rfl (by rw [hz]; decide) rfl hUN rfl HBB (enB_stb a1 n1 c1 a2 n2 c2 a3 n3 c3 x cq w.heap.size (w0.heap.size)) (Below.refl _ _) f))
      · intro lQ b W hI hUN hED KQ hKQ
        exact rk_skip 11 true 14 (.bool false) rfl rfl (hI.got 11 (of_decide_eq_true rfl) (edge hED 11 (by kernel_rfl)) rfl) rfl (hKQ.out _ _ (hI.put 12 15 rfl rfl (by rw [hz]; decide) rfl hUN rfl HBB (enB_stb a1 n1 c1 a2 n2 c2 a3 n3 c3 x cq w.heap.size (w0.heap.size)) (Below.refl _ _) rfl))
      · intro lQ b W hI hUN hED KQ hKQ
        exact rk_skip 11 true 14 (.bool false) rfl rfl (hI.got 11 (of_decide_eq_true rfl) (edge hED 11 (by kernel_rfl)) rfl) rfl (hKQ.out _ _ (hI.put 13 16 rfl rfl (by rw [hz]; decide) rfl hUN rfl HBB (enB_stb a1 n1 c1 a2 n2 c2 a3 n3 c3 x cq w.heap.size (w0.heap.size)) (Below.refl _ _) rfl))
      · intro lQ b W hI hUN hED KQ hKQ
        exact rk_skip 11 true 14 (.bool false) rfl rfl (hI.got 11 (of_decide_eq_true rfl) (edge hED 11 (by kernel_rfl)) rfl) rfl (hKQ.out _ _ (hI.put 14 17 rfl rfl (by rw [hz]; decide) rfl hUN rfl HBB (enB_stb a1 n1 c1 a2 n2 c2 a3 n3 c3 x cq w.heap.size (w0.heap.size)) (Below.refl _ _) rfl))
      · intro lQ b W hI hUN hED KQ hKQ
        exact rk_skip 11 true 14 (.bool false) rfl rfl (hI.got 11 (of_decide_eq_true rfl) (edge hED 11 (by kernel_rfl)) rfl) rfl (hKQ.out _ _ (hI.put 15 18 rfl rfl (by rw [hz]; decide) rfl hUN rfl HBB (enB_stb a1 n1 c1 a2 n2 c2 a3 n3 c3 x cq w.heap.size (w0.heap.size)) (Below.refl _ _) rfl))
      · intro lQ b W hI hUN hED KQ hKQ
        exact rk_skip 11 true 14 (.bool false) rfl rfl (hI.got 11 (of_decide_eq_true rfl) (edge hED 11 (by kernel_rfl)) rfl) rfl (hKQ.out _ _ (hI.put 16 19 rfl rfl (by rw [hz]; decide) rfl hUN rfl HBB (enB_stb a1 n1 c1 a2 n2 c2 a3 n3 c3 x cq w.heap.size (w0.heap.size)) (Below.refl _ _) rfl))
      · intro lQ b W hI hUN hED KQ hKQ
        exact rk_skip 11 true 14 (.bool false) rfl rfl (hI.got 11 (of_decide_eq_true rfl) (edge hED 11 (by kernel_rfl)) rfl) rfl (hKQ.out _ _ (hI.put 17 20 rfl rfl (by rw [hz]; decide) rfl hUN rfl HBB (enB_stb a1 n1 c1 a2 n2 c2 a3 n3 c3 x cq w.heap.size (w0.heap.size)) (Below.refl _ _) rfl))
      · intro lQ b W hI hUN hED KQ hKQ
        exact rk_skip 11 true 14 (.bool false) rfl rfl (hI.got 11 (of_decide_eq_true rfl) (edge hED 11 (by kernel_rfl)) rfl) rfl (hKQ.out _ _ (hI.put 18 21 rfl rfl (by rw [hz]; decide) rfl hUN rfl HBB (enB_stb a1 n1 c1 a2 n2 c2 a3 n3 c3 x cq w.heap.size (w0.heap.size)) (Below.refl _ _) rfl))
      · intro lQ b W hI hUN hED KQ hKQ
        exact rk_skip 11 true 14 (.bool false) rfl rfl (hI.got 11 (of_decide_eq_true rfl) (edge hED 11 (by kernel_rfl)) rfl) rfl (hKQ.out _ _ (hI.put 19 22 rfl rfl (by rw [hz]; decide) rfl hUN rfl HBB (enB_stb a1 n1 c1 a2 n2 c2 a3 n3 c3 x cq w.heap.size (w0.heap.size)) (Below.refl _ _) rfl))
      · intro lQ b W hI hUN hED KQ hKQ
        refine rk_plain rfl ?_
        have fc : aT b 14 = .bool false := hI.got 11 (of_decide_eq_true rfl) (edge hED 11 (by kernel_rfl)) rfl
        exact opw_pick_f 14 _ _ rfl fc _ rfl (hKQ.out _ _ (hI.put 20 23 rfl rfl (by rw [hz]; decide) rfl hUN rfl HBB (enB_stb a1 n1 c1 a2 n2 c2 a3 n3 c3 x cq w.heap.size (w0.heap.size)) (Below.refl _ _) rfl))
      · intro lQ b W hI hUN hED KQ hKQ
        refine rk_plain rfl ?_
        have f := hI.got 20 (of_decide_eq_true rfl) (edge hED 20 (by kernel_rfl)) rfl
        exact opw_assign 23 rfl (hKQ.out _ _ (hI.put 21 2 rfl rfl (by rw [hz]; decide) rfl hUN rfl HBB (enB_stb a1 n1 c1 a2 n2 c2 a3 n3 c3 x cq w.heap.size (w0.heap.size)) (Below.refl _ _) f))
    · intro b W hf hb F
      have e2 : aT b 2 = .bool false := F 21 (of_decide_eq_true rfl) rfl
      rw [hf.eq]
      simp only [puts, Act.put, List.setIfInBounds_toArray, List.set_cons_zero, List.set_cons_succ, e2]
      clear hf F e2
      generalize aT b = AT
      clear b
      go_wp2
      go_ret
      exact says_f HN.out (hB0.trans (hb.mono hB0.size))
  have HEV : Hid (∀ W, Below w0.heap.size w0 W → Calls Tryd.prog 70 #[.slice a2 n2 c2, .func (Fn.func 71) #[.agg #[.slice a1 n1 c1, .int .i64 x.num, .int .i64 x.base, .int .i64 x.tm, .int .i64 x.next, .int .i64 x.scope, .bool x.ind, .slice a2 n2 c2, .slice a3 n3 c3]] #[]] W fun e w' => e = .returned (.bool true) ∧ Below W.heap.size W w') := fun W hW => (hev W (hB0.trans (hW.mono hB0.size))).mono (fun e w' q => by
    obtain ⟨v, e1, e2, e3⟩ := q
    cases v with
    | true => exact ⟨e1, e3⟩
    | false => exact absurd (e2.out.2 hall) (by simp))
  have HBK : Hid (∀ W, Below w0.heap.size w0 W → Calls Tryd.prog 72 #[.slice a2 n2 c2] W fun e w' => ∃ gb, e = .returned (.map (some gb)) ∧ MpO gb n2 (Sn x.ents n2) w' ∧ Below W.heap.size W w') := fun W hW => hbk hall h60 W (hB0.trans (hW.mono hB0.size))
  obtain ⟨cq, hcq⟩ : ∃ cq : Bool, (((Maps.size (Sn x.ents n2) : Nat) : Int) == (n2 : Int)) = cq := ⟨_, rfl⟩
  have HCQ : Hid ((((Maps.size (Sn x.ents n2) : Nat) : Int) == (n2 : Int)) = cq) := hcq
  have HIF : Hid (cq = true ↔ (n2 ≤ 60 ∧ (∀ k, k < n2 → entP x (x.ents.getD k default)) ∧ Maps.size (Sn x.ents n2) = n2)) := by
    show _ ↔ _
    rw [← hcq, beq_iff_eq]
    exact ⟨fun q => ⟨h60, hall, by omega⟩, fun q => by have := q.2.2; omega⟩
  clear hev hbk h60 hall hcq
  have HBB : w0.heap.size ≤ w0.heap.size := Nat.le_refl _
  go_enter Tryd.func39, Tryd.ntmps39
  go_upto_region 1 with fail
  rw [← HW.out]
  clear HW
  refine wp_region_rk (enC a1 n1 c1 a2 n2 c2 a3 n3 c3 x cq w.heap.size (w0.heap.size)) [2, 3, 4, 5, 6, 7, 8, 9, 10, 11, 12, 13, 14, 15, 16, 17, 18, 19, 20, 21, 22, 23] (w0.heap.size) (fun a0 => a0.tmps.size = 24 ∧ aT a0 1 = .pointer (some ⟨w.heap.size, 0, none⟩)) (by kernel_rfl) rfl (by kernel_rfl) rfl ⟨rfl, rfl⟩ (enC_stb a1 n1 c1 a2 n2 c2 a3 n3 c3 x cq w.heap.size (w0.heap.size)) ?_ ?_ ?_
  · intro k hk hk2
    match k, hk, hk2 with
    | 22, _, _ => exact HH0.out
    | 0, hk, _ => exact absurd hk (by show ¬ (22 ≤ 0); omega)
    | 1, hk, _ => exact absurd hk (by show ¬ (22 ≤ 1); omega)
    | 2, hk, _ => exact absurd hk (by show ¬ (22 ≤ 2); omega)
    | 3, hk, _ => exact absurd hk (by show ¬ (22 ≤ 3); omega)
    | 4, hk, _ => exact absurd hk (by show ¬ (22 ≤ 4); omega)
    | 5, hk, _ => exact absurd hk (by show ¬ (22 ≤ 5); omega)
    | 6, hk, _ => exact absurd hk (by show ¬ (22 ≤ 6); omega)
    | 7, hk, _ => exact absurd hk (by show ¬ (22 ≤ 7); omega)
    | 8, hk, _ => exact absurd hk (by show ¬ (22 ≤ 8); omega)
    | 9, hk, _ => exact absurd hk (by show ¬ (22 ≤ 9); omega)
    | 10, hk, _ => exact absurd hk (by show ¬ (22 ≤ 10); omega)
    | 11, hk, _ => exact absurd hk (by show ¬ (22 ≤ 11); omega)
    | 12, hk, _ => exact absurd hk (by show ¬ (22 ≤ 12); omega)
    | 13, hk, _ => exact absurd hk (by show ¬ (22 ≤ 13); omega)
    | 14, hk, _ => exact absurd hk (by show ¬ (22 ≤ 14); omega)
    | 15, hk, _ => exact absurd hk (by show ¬ (22 ≤ 15); omega)
    | 16, hk, _ => exact absurd hk (by show ¬ (22 ≤ 16); omega)
    | 17, hk, _ => exact absurd hk (by show ¬ (22 ≤ 17); omega)
    | 18, hk, _ => exact absurd hk (by show ¬ (22 ≤ 18); omega)
    | 19, hk, _ => exact absurd hk (by show ¬ (22 ≤ 19); omega)
    | 20, hk, _ => exact absurd hk (by show ¬ (22 ≤ 20); omega)
    | 21, hk, _ => exact absurd hk (by show ¬ (22 ≤ 21); omega)
    | k + 23, _, hk2 => exact absurd hk2 (by show ¬ (k + 23 < 23); omega)
  · rintro a0 ⟨hz, g1⟩
    refine StepsRK.cons ?_ (StepsRK.cons ?_ (StepsRK.cons ?_ (StepsRK.cons ?_ (StepsRK.cons ?_ (StepsRK.cons ?_ (StepsRK.cons ?_ (StepsRK.cons ?_ (StepsRK.cons ?_ (StepsRK.cons ?_ (StepsRK.cons ?_ (StepsRK.cons ?_ (StepsRK.cons ?_ (StepsRK.cons ?_ (StepsRK.cons ?_ (StepsRK.cons ?_ (StepsRK.cons ?_ (StepsRK.cons ?_ (StepsRK.cons ?_ (StepsRK.cons ?_ (StepsRK.cons ?_ (StepsRK.cons ?_ (StepsRK.nil))))))))))))))))))))))
    · intro lQ b W hI hUN hED KQ hKQ
      refine rk_plain rfl ?_
      exact opw_field 36 1 7 rfl _ ((hI.fr.same 1 (by decide)).trans g1) _ (by kernel_rfl) (hKQ.out _ _ (hI.put 0 3 rfl rfl (by rw [hz]; decide) rfl hUN rfl HBB (enC_stb a1 n1 c1 a2 n2 c2 a3 n3 c3 x cq w.heap.size (w0.heap.size)) (Below.refl _ _) rfl))
    · intro lQ b W hI hUN hED KQ hKQ
      refine rk_plain rfl ?_
      have f := hI.got 0 (of_decide_eq_true rfl) (edge hED 0 (by kernel_rfl)) rfl
      have hg := (hI.vot 22 (of_decide_eq_true rfl) (of_decide_eq_true rfl) rfl)
      have hc : W.cell? ⟨w.heap.size, 7, none⟩ = some (.slice a2 n2 c2) := (cell_of_row _ _ 7 _ _ (0, 0) hg).trans rfl
      exact opw_load1 34 3 rfl _ f _ (by simp [Instr.loadAt, go_sem, hc]) (hKQ.out _ _ (hI.put 1 4 rfl rfl (by rw [hz]; decide) rfl hUN rfl HBB (enC_stb a1 n1 c1 a2 n2 c2 a3 n3 c3 x cq w.heap.size (w0.heap.size)) (Below.refl _ _) rfl))
    · intro lQ b W hI hUN hED KQ hKQ
      refine rk_plain rfl ?_
      have f : aT b 4 = .slice a2 n2 c2 := hI.got 1 (of_decide_eq_true rfl) (edge hED 1 (by kernel_rfl)) rfl
      exact opw_len 4 _ _ rfl Tryd.underlying34 _ _ _ f (hKQ.out _ _ (hI.put 2 5 rfl rfl (by rw [hz]; decide) rfl hUN rfl HBB (enC_stb a1 n1 c1 a2 n2 c2 a3 n3 c3 x cq w.heap.size (w0.heap.size)) (Below.refl _ _) rfl))
    · intro lQ b W hI hUN hED KQ hKQ
      refine rk_plain rfl ?_
      have f : aT b 5 = .int .i64 n2 := hI.got 2 (of_decide_eq_true rfl) (edge hED 2 (by kernel_rfl)) rfl
      refine opw_leqc _ _ 5 60 rfl _ f ?_
      rw [HLE60.out]
      exact hKQ.out _ _ (hI.put 3 6 rfl rfl (by rw [hz]; decide) rfl hUN rfl HBB (enC_stb a1 n1 c1 a2 n2 c2 a3 n3 c3 x cq w.heap.size (w0.heap.size)) (Below.refl _ _) rfl)
    · intro lQ b W hI hUN hED KQ hKQ
      refine rk_plain rfl ?_
      have f := hI.got 3 (of_decide_eq_true rfl) (edge hED 3 (by kernel_rfl)) rfl
      exact opw_move 6 rfl (hKQ.out _ _ (hI.put 4 7 rfl rfl (by rw [hz]; decide) rfl hUN rfl HBB (enC_stb a1 n1 c1 a2 n2 c2 a3 n3 c3 x cq w.heap.size (w0.heap.size)) (Below.refl _ _) f))
    · intro lQ b W hI hUN hED KQ hKQ
      refine rk_take 4 true 7 rfl rfl (hI.got 4 (of_decide_eq_true rfl) (edge hED 4 (by kernel_rfl)) rfl) ?_
      exact opw_field 36 1 7 rfl _ ((hI.fr.same 1 (by decide)).trans g1) _ (by kernel_rfl) (hKQ.out _ _ (hI.put 5 8 rfl rfl (by rw [hz]; decide) rfl hUN rfl HBB (enC_stb a1 n1 c1 a2 n2 c2 a3 n3 c3 x cq w.heap.size (w0.heap.size)) (Below.refl _ _) rfl))
    · intro lQ b W hI hUN hED KQ hKQ
      refine rk_take 4 true 7 rfl rfl (hI.got 4 (of_decide_eq_true rfl) (edge hED 4 (by kernel_rfl)) rfl) ?_
      have f := hI.got 5 (of_decide_eq_true rfl) (edge hED 5 (by kernel_rfl)) rfl
      have hg := (hI.vot 22 (of_decide_eq_true rfl) (of_decide_eq_true rfl) rfl)
      have hc : W.cell? ⟨w.heap.size, 7, none⟩ = some (.slice a2 n2 c2) := (cell_of_row _ _ 7 _ _ (0, 0) hg).trans rfl
      exact opw_load1 34 8 rfl _ f _ (by simp [Instr.loadAt, go_sem, hc]) (hKQ.out _ _ (hI.put 6 9 rfl rfl (by rw [hz]; decide) rfl hUN rfl HBB (enC_stb a1 n1 c1 a2 n2 c2 a3 n3 c3 x cq w.heap.size (w0.heap.size)) (Below.refl _ _) rfl))
    · intro lQ b W hI hUN hED KQ hKQ
      refine rk_take 4 true 7 rfl rfl (hI.got 4 (of_decide_eq_true rfl) (edge hED 4 (by kernel_rfl)) rfl) ?_
      have hg := (hI.vot 22 (of_decide_eq_true rfl) (of_decide_eq_true rfl) rfl)
      refine wp_load_row 36 _ rfl (w.heap.size) ((hI.fr.same 1 (by decide)).trans g1) 36 #[.slice a1 n1 c1, .int .i64 x.num, .int .i64 x.base, .int .i64 x.tm, .int .i64 x.next, .int .i64 x.scope, .bool x.ind, .slice a2 n2 c2, .slice a3 n3 c3] (0, 0) _ hg Tryd.underlying36 rfl (by kernel_rfl) ?_
      exact hKQ.out _ _ (hI.put 7 10 rfl rfl (by rw [hz]; decide) rfl hUN rfl HBB (enC_stb a1 n1 c1 a2 n2 c2 a3 n3 c3 x cq w.heap.size (w0.heap.size)) (Below.refl _ _) rfl)
    · intro lQ b W hI hUN hED KQ hKQ
      refine rk_take 4 true 7 rfl rfl (hI.got 4 (of_decide_eq_true rfl) (edge hED 4 (by kernel_rfl)) rfl) ?_
      have f : aT b 10 = .agg #[.slice a1 n1 c1, .int .i64 x.num, .int .i64 x.base, .int .i64 x.tm, .int .i64 x.next, .int .i64 x.scope, .bool x.ind, .slice a2 n2 c2, .slice a3 n3 c3] := hI.got 7 (of_decide_eq_true rfl) (edge hED 7 (by kernel_rfl)) rfl
      exact opw_makeFunc _ 10 rfl _ f (hKQ.out _ _ (hI.put 8 11 rfl rfl (by rw [hz]; decide) rfl hUN rfl HBB (enC_stb a1 n1 c1 a2 n2 c2 a3 n3 c3 x cq w.heap.size (w0.heap.size)) (Below.refl _ _) rfl))
    · intro lQ b W hI hUN hED KQ hKQ
      refine rk_take 4 true 7 rfl rfl (hI.got 4 (of_decide_eq_true rfl) (edge hED 4 (by kernel_rfl)) rfl) ?_
      have f0 := hI.got 6 (of_decide_eq_true rfl) (edge hED 6 (by kernel_rfl)) rfl
      replace f0 : aT b 9 = .slice a2 n2 c2 := f0
      have f1 := hI.got 8 (of_decide_eq_true rfl) (edge hED 8 (by kernel_rfl)) rfl
      replace f1 : aT b 11 = .func (Fn.func 71) #[.agg #[.slice a1 n1 c1, .int .i64 x.num, .int .i64 x.base, .int .i64 x.tm, .int .i64 x.next, .int .i64 x.scope, .bool x.ind, .slice a2 n2 c2, .slice a3 n3 c3]] #[] := f1
      refine opw_call 70 #[.tmp 9, .tmp 11] _ _ _ rfl Tryd.func70 (by kernel_rfl) rfl #[.slice a2 n2 c2, .func (Fn.func 71) #[.agg #[.slice a1 n1 c1, .int .i64 x.num, .int .i64 x.base, .int .i64 x.tm, .int .i64 x.next, .int .i64 x.scope, .bool x.ind, .slice a2 n2 c2, .slice a3 n3 c3]] #[]] (by simp [ev, f0, f1]) ?_
      refine (HEV.out W hI.bel).mono ?_
      rintro e W2 ⟨rfl, hb⟩
      exact ⟨_, rfl, hKQ.out _ _ (hI.put 9 12 rfl rfl (by rw [hz]; decide) rfl hUN rfl HBB (enC_stb a1 n1 c1 a2 n2 c2 a3 n3 c3 x cq w.heap.size (w0.heap.size)) hb rfl)⟩
    · intro lQ b W hI hUN hED KQ hKQ
      refine rk_plain rfl ?_
      have fc : aT b 7 = .bool true := hI.got 4 (of_decide_eq_true rfl) (edge hED 4 (by kernel_rfl)) rfl
      have f := hI.got 9 (of_decide_eq_true rfl) (edge hED 9 (by kernel_rfl)) rfl
      replace f : aT b 12 = .bool true := f
      exact opw_pick_t 7 _ _ rfl fc _ f (hKQ.out _ _ (hI.put 10 13 rfl rfl (by rw [hz]; decide) rfl hUN rfl HBB (enC_stb a1 n1 c1 a2 n2 c2 a3 n3 c3 x cq w.heap.size (w0.heap.size)) (Below.refl _ _) rfl))
    · intro lQ b W hI hUN hED KQ hKQ
      refine rk_plain rfl ?_
      have f := hI.got 10 (of_decide_eq_true rfl) (edge hED 10 (by kernel_rfl)) rfl
      exact opw_move 13 rfl (hKQ.out _ _ (hI.put 11 14 rfl rfl (by rw [hz]; decide) rfl hUN rfl HBB (enC_stb a1 n1 c1 a2 n2 c2 a3 n3 c3 x cq w.heap.size (w0.heap.size)) (Below.refl _ _) f))
    · intro lQ b W hI hUN hED KQ hKQ
      refine rk_take 11 true 14 rfl rfl (hI.got 11 (of_decide_eq_true rfl) (edge hED 11 (by kernel_rfl)) rfl) ?_
      exact opw_field 36 1 7 rfl _ ((hI.fr.same 1 (by decide)).trans g1) _ (by kernel_rfl) (hKQ.out _ _ (hI.put 12 15 rfl rfl (by rw [hz]; decide) rfl hUN rfl HBB (enC_stb a1 n1 c1 a2 n2 c2 a3 n3 c3 x cq w.heap.size (w0.heap.size)) (Below.refl _ _) rfl))
    · intro lQ b W hI hUN hED KQ hKQ
      refine rk_take 11 true 14 rfl rfl (hI.got 11 (of_decide_eq_true rfl) (edge hED 11 (by kernel_rfl)) rfl) ?_
      have f := hI.got 12 (of_decide_eq_true rfl) (edge hED 12 (by kernel_rfl)) rfl
      have hg := (hI.vot 22 (of_decide_eq_true rfl) (of_decide_eq_true rfl) rfl)
      have hc : W.cell? ⟨w.heap.size, 7, none⟩ = some (.slice a2 n2 c2) := (cell_of_row _ _ 7 _ _ (0, 0) hg).trans rfl
      exact opw_load1 34 15 rfl _ f _ (by simp [Instr.loadAt, go_sem, hc]) (hKQ.out _ _ (hI.put 13 16 rfl rfl (by rw [hz]; decide) rfl hUN rfl HBB (enC_stb a1 n1 c1 a2 n2 c2 a3 n3 c3 x cq w.heap.size (w0.heap.size)) (Below.refl _ _) rfl))
    · intro lQ b W hI hUN hED KQ hKQ
      refine rk_take 11 true 14 rfl rfl (hI.got 11 (of_decide_eq_true rfl) (edge hED 11 (by kernel_rfl)) rfl) ?_
      have f0 := hI.got 13 (of_decide_eq_true rfl) (edge hED 13 (by kernel_rfl)) rfl
      replace f0 : aT b 16 = .slice a2 n2 c2 := f0
      refine opw_call 72 #[.tmp 16] _ _ _ rfl Tryd.func72 (by kernel_rfl) rfl #[.slice a2 n2 c2] (by simp [ev, f0]) ?_
      refine (HBK.out W hI.bel).mono ?_
      rintro e W2 ⟨gb, rfl, ho, hb⟩
      exact ⟨_, rfl, hKQ.out _ _ (hI.put 14 17 rfl rfl (by rw [hz]; decide) rfl hUN rfl HBB (enC_stb a1 n1 c1 a2 n2 c2 a3 n3 c3 x cq w.heap.size (w0.heap.size)) hb ⟨gb, rfl, ho⟩)⟩
    · intro lQ b W hI hUN hED KQ hKQ
      refine rk_take 11 true 14 rfl rfl (hI.got 11 (of_decide_eq_true rfl) (edge hED 11 (by kernel_rfl)) rfl) ?_
      obtain ⟨gb, f, ho⟩ := hI.got 14 (of_decide_eq_true rfl) (edge hED 14 (by kernel_rfl)) rfl
      replace f : aT b 17 = _ := f
      exact opw_maplen 17 _ _ _ rfl Tryd.underlying95 RG gb n2 (Sn x.ents n2) f ho (hKQ.out _ _ (hI.put 15 18 rfl rfl (by rw [hz]; decide) rfl hUN rfl HBB (enC_stb a1 n1 c1 a2 n2 c2 a3 n3 c3 x cq w.heap.size (w0.heap.size)) (Below.refl _ _) rfl))
    · intro lQ b W hI hUN hED KQ hKQ
      refine rk_take 11 true 14 rfl rfl (hI.got 11 (of_decide_eq_true rfl) (edge hED 11 (by kernel_rfl)) rfl) ?_
      exact opw_field 36 1 7 rfl _ ((hI.fr.same 1 (by decide)).trans g1) _ (by kernel_rfl) (hKQ.out _ _ (hI.put 16 19 rfl rfl (by rw [hz]; decide) rfl hUN rfl HBB (enC_stb a1 n1 c1 a2 n2 c2 a3 n3 c3 x cq w.heap.size (w0.heap.size)) (Below.refl _ _) rfl))
    · intro lQ b W hI hUN hED KQ hKQ
      refine rk_take 11 true 14 rfl rfl (hI.got 11 (of_decide_eq_true rfl) (edge hED 11 (by kernel_rfl)) rfl) ?_
      have f := hI.got 16 (of_decide_eq_true rfl) (edge hED 16 (by kernel_rfl)) rfl
      have hg := (hI.vot 22 (of_decide_eq_true rfl) (of_decide_eq_true rfl) rfl)
      have hc : W.cell? ⟨w.heap.size, 7, none⟩ = some (.slice a2 n2 c2) := (cell_of_row _ _ 7 _ _ (0, 0) hg).trans rfl
      exact opw_load1 34 19 rfl _ f _ (by simp [Instr.loadAt, go_sem, hc]) (hKQ.out _ _ (hI.put 17 20 rfl rfl (by rw [hz]; decide) rfl hUN rfl HBB (enC_stb a1 n1 c1 a2 n2 c2 a3 n3 c3 x cq w.heap.size (w0.heap.size)) (Below.refl _ _) rfl))
    · intro lQ b W hI hUN hED KQ hKQ
      refine rk_take 11 true 14 rfl rfl (hI.got 11 (of_decide_eq_true rfl) (edge hED 11 (by kernel_rfl)) rfl) ?_
      have f : aT b 20 = .slice a2 n2 c2 := hI.got 17 (of_decide_eq_true rfl) (edge hED 17 (by kernel_rfl)) rfl
      exact opw_len 20 _ _ rfl Tryd.underlying34 _ _ _ f (hKQ.out _ _ (hI.put 18 21 rfl rfl (by rw [hz]; decide) rfl hUN rfl HBB (enC_stb a1 n1 c1 a2 n2 c2 a3 n3 c3 x cq w.heap.size (w0.heap.size)) (Below.refl _ _) rfl))
    · intro lQ b W hI hUN hED KQ hKQ
      refine rk_take 11 true 14 rfl rfl (hI.got 11 (of_decide_eq_true rfl) (edge hED 11 (by kernel_rfl)) rfl) ?_
      have f1 : aT b 18 = .int .i64 (Maps.size (Sn x.ents n2)) := hI.got 15 (of_decide_eq_true rfl) (edge hED 15 (by kernel_rfl)) rfl
      have f2 : aT b 21 = .int .i64 n2 := hI.got 18 (of_decide_eq_true rfl) (edge hED 18 (by kernel_rfl)) rfl
      exact opw_eql _ _ 18 21 rfl .i64 _ _ f1 f2 cq HCQ.out (hKQ.out _ _ (hI.put 19 22 rfl rfl (by rw [hz]; decide) rfl hUN rfl HBB (enC_stb a1 n1 c1 a2 n2 c2 a3 n3 c3 x cq w.heap.size (w0.heap.size)) (Below.refl _ _) rfl))
    · intro lQ b W hI hUN hED KQ hKQ
      refine rk_plain rfl ?_
      have fc : aT b 14 = .bool true := hI.got 11 (of_decide_eq_true rfl) (edge hED 11 (by kernel_rfl)) rfl
      have f := hI.got 19 (of_decide_eq_true rfl) (edge hED 19 (by kernel_rfl)) rfl
      replace f : aT b 22 = .bool cq := f
      exact opw_pick_t 14 _ _ rfl fc _ f (hKQ.out _ _ (hI.put 20 23 rfl rfl (by rw [hz]; decide) rfl hUN rfl HBB (enC_stb a1 n1 c1 a2 n2 c2 a3 n3 c3 x cq w.heap.size (w0.heap.size)) (Below.refl _ _) rfl))
    · intro lQ b W hI hUN hED KQ hKQ
      refine rk_plain rfl ?_
      have f := hI.got 20 (of_decide_eq_true rfl) (edge hED 20 (by kernel_rfl)) rfl
      exact opw_assign 23 rfl (hKQ.out _ _ (hI.put 21 2 rfl rfl (by rw [hz]; decide) rfl hUN rfl HBB (enC_stb a1 n1 c1 a2 n2 c2 a3 n3 c3 x cq w.heap.size (w0.heap.size)) (Below.refl _ _) f))
  · intro b W hf hb F
    have e2 : aT b 2 = .bool cq := F 21 (of_decide_eq_true rfl) rfl
    rw [hf.eq]
    simp only [puts, Act.put, List.setIfInBounds_toArray, List.set_cons_zero, List.set_cons_succ, e2]
    clear hf F e2
    generalize aT b = AT
    clear b
    go_wp2
    go_ret
    exact ⟨cq, rfl, HIF.out, hB0.trans (hb.mono hB0.size)⟩

end Go.Proofs.YtbfjkmlmnhphoaaDoor
