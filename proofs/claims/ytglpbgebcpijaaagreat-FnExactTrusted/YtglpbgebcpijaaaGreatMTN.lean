import Derived.Test.YtglpbgebcpijaaaGreatMTQ
import Derived.Test.YtglpbgebcpijaaaGreatMTB
import Derived.Test.YtglpbgebcpijaaaGreatRK
import Derived.Test.YtglpbgebcpijaaaGreatTP3
set_option linter.unusedVariables false
namespace Go.Proofs.YtglpbgebcpijaaaGreat
open Go.RowKit Go.Sort

/-- A key is trusted. -/
def truP (x : TsP) (key at2 now : Int) : Prop := rootP x.r ∧ stampP x.s ∧ listP x.l ∧ (now < x.r.e ∧ now < x.s.e ∧ now < x.l.e) ∧ x.l.v = x.s.lv ∧ hashL (lbB x.l.v x.l.e x.l.es) = x.s.lh ∧ ∃ k, k < x.l.es.length ∧ (x.l.es.getD k (0, 0)).1 = key ∧ at2 ≤ (x.l.es.getD k (0, 0)).2
/-- What is known of a region (RJ). -/
def tq5a (x : TsP) (s0 : Option Addr) (n0 c0 : Nat) (s1 : Option Addr) (n1 c1 : Nat) (s2 : Option Addr) (n2 c2 : Nat) (s3 : Option Addr) (n3 c3 : Nat) (s4 : Option Addr) (n4 c4 : Nat) (l : List Int) (cb : Bool) (G B : Nat) : RSpec where
  m := 17
  n := 18
  slots := [46, 47, 48, 49, 50, 51, 52, 53, 54, 55, 56, 57, 58, 59, 60, 61, 62, 100017]
  kills := [[], [], [], [], [], [], [], [], [], [], [], [], [], [], [], [], [], []]
  pres := [[], [], [], [], [], [], [], [], [], [], [], [], [], [], [], [], [], []]
  fact := fun k v w => match k with
    | 0 => v = .pointer (some ⟨G, 9, none⟩)
    | 1 => v = .pointer (some ⟨G, 9, none⟩)
    | 2 => v = .int .i64 x.l.v
    | 3 => v = .pointer (some ⟨G, 4, none⟩)
    | 4 => v = .pointer (some ⟨G, 6, none⟩)
    | 5 => v = .int .i64 x.s.lv
    | 6 => v = .bool true
    | 7 => v = .bool true
    | 8 => v = undef
    | 9 => v = undef
    | 10 => v = undef
    | 11 => v = undef
    | 12 => v = undef
    | 13 => v = undef
    | 14 => v = undef
    | 15 => v = undef
    | 16 => v = .bool true
    | _ => w.heap[G]? = some (.cells #[.int .i64 x.r.v, .int .i64 x.r.e, .slice s0 n0 c0, .slice s1 n1 c1, .int .i64 x.s.v, .int .i64 x.s.e, .int .i64 x.s.lv, .int .u64 x.s.lh, .slice s2 n2 c2, .int .i64 x.l.v, .int .i64 x.l.e, .slice s3 n3 c3, .slice s4 n4 c4] 60 (0, 0))
set_option linter.unusedVariables false in
theorem tq5a_stb (x : TsP) (s0 : Option Addr) (n0 c0 : Nat) (s1 : Option Addr) (n1 c1 : Nat) (s2 : Option Addr) (n2 c2 : Nat) (s3 : Option Addr) (n3 c3 : Nat) (s4 : Option Addr) (n4 c4 : Nat) (l : List Int) (cb : Bool) (G B : Nat) (k : Nat) (hk : k < 18) : StB ((tq5a x s0 n0 c0 s1 n1 c1 s2 n2 c2 s3 n3 c3 s4 n4 c4 l cb G (B)).fact k) := by
  match k, hk with
  | 0, _ => exact fun _ _ _ h _ => h
  | 1, _ => exact fun _ _ _ h _ => h
  | 2, _ => exact fun _ _ _ h _ => h
  | 3, _ => exact fun _ _ _ h _ => h
  | 4, _ => exact fun _ _ _ h _ => h
  | 5, _ => exact fun _ _ _ h _ => h
  | 6, _ => exact fun _ _ _ h _ => h
  | 7, _ => exact fun _ _ _ h _ => h
  | 8, _ => exact fun _ _ _ h _ => h
  | 9, _ => exact fun _ _ _ h _ => h
  | 10, _ => exact fun _ _ _ h _ => h
  | 11, _ => exact fun _ _ _ h _ => h
  | 12, _ => exact fun _ _ _ h _ => h
  | 13, _ => exact fun _ _ _ h _ => h
  | 14, _ => exact fun _ _ _ h _ => h
  | 15, _ => exact fun _ _ _ h _ => h
  | 16, _ => exact fun _ _ _ h _ => h
  | 17, _ => exact fun _ _ _ q_0 hb => below_kept q_0 hb
  | k + 18, hk => omega

/-- What is known of a region (RJ). -/
def tq5b (x : TsP) (s0 : Option Addr) (n0 c0 : Nat) (s1 : Option Addr) (n1 c1 : Nat) (s2 : Option Addr) (n2 c2 : Nat) (s3 : Option Addr) (n3 c3 : Nat) (s4 : Option Addr) (n4 c4 : Nat) (l : List Int) (cb : Bool) (G B : Nat) : RSpec where
  m := 17
  n := 18
  slots := [46, 47, 48, 49, 50, 51, 52, 53, 54, 55, 56, 57, 58, 59, 60, 61, 62, 100017]
  kills := [[], [], [], [], [], [], [], [], [], [], [], [], [], [], [], [], [], []]
  pres := [[], [], [], [], [], [], [], [], [], [], [], [], [], [], [], [], [], []]
  fact := fun k v w => match k with
    | 0 => v = .pointer (some ⟨G, 9, none⟩)
    | 1 => v = .pointer (some ⟨G, 9, none⟩)
    | 2 => v = .int .i64 x.l.v
    | 3 => v = .pointer (some ⟨G, 4, none⟩)
    | 4 => v = .pointer (some ⟨G, 6, none⟩)
    | 5 => v = .int .i64 x.s.lv
    | 6 => v = .bool false
    | 7 => v = .bool false
    | 8 => v = .pointer (some ⟨G, 9, none⟩)
    | 9 => v = .agg #[.int .i64 x.l.v, .int .i64 x.l.e, .slice s3 n3 c3, .slice s4 n4 c4]
    | 10 => ∃ a4 c5, v = .slice a4 l.length c5 ∧ Own B w a4 l.length c5 l
    | 11 => v = .int .u64 (hashL l)
    | 12 => v = .pointer (some ⟨G, 4, none⟩)
    | 13 => v = .pointer (some ⟨G, 7, none⟩)
    | 14 => v = .int .u64 x.s.lh
    | 15 => v = .bool cb
    | 16 => v = .bool cb
    | _ => w.heap[G]? = some (.cells #[.int .i64 x.r.v, .int .i64 x.r.e, .slice s0 n0 c0, .slice s1 n1 c1, .int .i64 x.s.v, .int .i64 x.s.e, .int .i64 x.s.lv, .int .u64 x.s.lh, .slice s2 n2 c2, .int .i64 x.l.v, .int .i64 x.l.e, .slice s3 n3 c3, .slice s4 n4 c4] 60 (0, 0))
set_option linter.unusedVariables false in
theorem tq5b_stb (x : TsP) (s0 : Option Addr) (n0 c0 : Nat) (s1 : Option Addr) (n1 c1 : Nat) (s2 : Option Addr) (n2 c2 : Nat) (s3 : Option Addr) (n3 c3 : Nat) (s4 : Option Addr) (n4 c4 : Nat) (l : List Int) (cb : Bool) (G B : Nat) (k : Nat) (hk : k < 18) : StB ((tq5b x s0 n0 c0 s1 n1 c1 s2 n2 c2 s3 n3 c3 s4 n4 c4 l cb G (B)).fact k) := by
  match k, hk with
  | 0, _ => exact fun _ _ _ h _ => h
  | 1, _ => exact fun _ _ _ h _ => h
  | 2, _ => exact fun _ _ _ h _ => h
  | 3, _ => exact fun _ _ _ h _ => h
  | 4, _ => exact fun _ _ _ h _ => h
  | 5, _ => exact fun _ _ _ h _ => h
  | 6, _ => exact fun _ _ _ h _ => h
  | 7, _ => exact fun _ _ _ h _ => h
  | 8, _ => exact fun _ _ _ h _ => h
  | 9, _ => exact fun _ _ _ h _ => h
  | 10, _ => exact fun _ _ _ ⟨a4, c5, hv, q_0⟩ hb => ⟨a4, c5, hv, q_0.kept hb⟩
  | 11, _ => exact fun _ _ _ h _ => h
  | 12, _ => exact fun _ _ _ h _ => h
  | 13, _ => exact fun _ _ _ h _ => h
  | 14, _ => exact fun _ _ _ h _ => h
  | 15, _ => exact fun _ _ _ h _ => h
  | 16, _ => exact fun _ _ _ h _ => h
  | 17, _ => exact fun _ _ _ q_0 hb => below_kept q_0 hb
  | k + 18, hk => omega

set_option maxRecDepth 10000 in
set_option maxHeartbeats 8000000 in
theorem specTrusted_any (x : TsP) (key at2 now : Int) (s0 : Option Addr) (n0 c0 : Nat) (s1 : Option Addr) (n1 c1 : Nat) (s2 : Option Addr) (n2 c2 : Nat) (s3 : Option Addr) (n3 c3 : Nat) (s4 : Option Addr) (n4 c4 : Nat) (w : World) (h : TsR x s0 n0 s1 n1 s2 n2 s3 n3 s4 n4 w) :
    Calls Tryz.prog 15 #[.agg #[.int .i64 x.r.v, .int .i64 x.r.e, .slice s0 n0 c0, .slice s1 n1 c1, .int .i64 x.s.v, .int .i64 x.s.e, .int .i64 x.s.lv, .int .u64 x.s.lh, .slice s2 n2 c2, .int .i64 x.l.v, .int .i64 x.l.e, .slice s3 n3 c3, .slice s4 n4 c4], .int .u64 key, .int .i64 at2, .int .i64 now] w (SaysG (truP x key at2 now) w) := by
  obtain ⟨w1, hw1⟩ : ∃ w1, w1 = w.alloc (.cells #[.int .i64 x.r.v, .int .i64 x.r.e, .slice s0 n0 c0, .slice s1 n1 c1, .int .i64 x.s.v, .int .i64 x.s.e, .int .i64 x.s.lv, .int .u64 x.s.lh, .slice s2 n2 c2, .int .i64 x.l.v, .int .i64 x.l.e, .slice s3 n3 c3, .slice s4 n4 c4] 60) := ⟨_, rfl⟩
  have hbb : Below w.heap.size w w1 := by rw [hw1]; exact (Below.refl _ _).alloc (Nat.le_refl _) _
  have HB : Hid (w1.heap[w.heap.size]? = some (.cells #[.int .i64 x.r.v, .int .i64 x.r.e, .slice s0 n0 c0, .slice s1 n1 c1, .int .i64 x.s.v, .int .i64 x.s.e, .int .i64 x.s.lv, .int .u64 x.s.lh, .slice s2 n2 c2, .int .i64 x.l.v, .int .i64 x.l.e, .slice s3 n3 c3, .slice s4 n4 c4] 60 (0, 0))) := by show _ = _; rw [hw1]; exact heap_alloc_new w _
  have HR : Hid (∀ W, Below w.heap.size w W → TsR x s0 n0 s1 n1 s2 n2 s3 n3 s4 n4 W) := fun W hW => h.kept hW
  have HLN : Hid (x.l.es.length = n3) := h.r3.len
  have HW : Hid (_ = _) := hw1
  clear hw1 h
  have x0 : w1.cell? ⟨w.heap.size, 0, none⟩ = some (.int .i64 x.r.v) := (cell_of_row _ _ 0 _ _ (0, 0) HB.out).trans rfl
  have x1 : w1.cell? ⟨w.heap.size, 1, none⟩ = some (.int .i64 x.r.e) := (cell_of_row _ _ 1 _ _ (0, 0) HB.out).trans rfl
  have x2 : w1.cell? ⟨w.heap.size, 2, none⟩ = some (.slice s0 n0 c0) := (cell_of_row _ _ 2 _ _ (0, 0) HB.out).trans rfl
  have x3 : w1.cell? ⟨w.heap.size, 3, none⟩ = some (.slice s1 n1 c1) := (cell_of_row _ _ 3 _ _ (0, 0) HB.out).trans rfl
  have x4 : w1.cell? ⟨w.heap.size, 4, none⟩ = some (.int .i64 x.s.v) := (cell_of_row _ _ 4 _ _ (0, 0) HB.out).trans rfl
  have x5 : w1.cell? ⟨w.heap.size, 5, none⟩ = some (.int .i64 x.s.e) := (cell_of_row _ _ 5 _ _ (0, 0) HB.out).trans rfl
  have x6 : w1.cell? ⟨w.heap.size, 6, none⟩ = some (.int .i64 x.s.lv) := (cell_of_row _ _ 6 _ _ (0, 0) HB.out).trans rfl
  have x7 : w1.cell? ⟨w.heap.size, 7, none⟩ = some (.int .u64 x.s.lh) := (cell_of_row _ _ 7 _ _ (0, 0) HB.out).trans rfl
  have x8 : w1.cell? ⟨w.heap.size, 8, none⟩ = some (.slice s2 n2 c2) := (cell_of_row _ _ 8 _ _ (0, 0) HB.out).trans rfl
  have x9 : w1.cell? ⟨w.heap.size, 9, none⟩ = some (.int .i64 x.l.v) := (cell_of_row _ _ 9 _ _ (0, 0) HB.out).trans rfl
  have x10 : w1.cell? ⟨w.heap.size, 10, none⟩ = some (.int .i64 x.l.e) := (cell_of_row _ _ 10 _ _ (0, 0) HB.out).trans rfl
  have x11 : w1.cell? ⟨w.heap.size, 11, none⟩ = some (.slice s3 n3 c3) := (cell_of_row _ _ 11 _ _ (0, 0) HB.out).trans rfl
  have x12 : w1.cell? ⟨w.heap.size, 12, none⟩ = some (.slice s4 n4 c4) := (cell_of_row _ _ 12 _ _ (0, 0) HB.out).trans rfl
  go_enter Tryz.func15, Tryz.ntmps15
  go_upto_region 1 with fail
  rw [← HW.out]
  clear HW
  go_wp2_with fail
  refine (l22StateOk_any x s0 n0 c0 s1 n1 c1 s2 n2 c2 s3 n3 c3 s4 n4 c4 _ (HR.out _ hbb)).mono ?_
  rintro e1 v0 ⟨b0, rfl, HE, hb0⟩
  have k_v0 : Below w1.heap.size w1 v0 := hb0
  have m_v0 : Below w.heap.size w v0 := keepT hbb k_v0
  clear x0 x1 x2 x3 x4 x5 x6 x7 x8 x9 x10 x11 x12
  have x0 : v0.cell? ⟨w.heap.size, 0, none⟩ = some (.int .i64 x.r.v) := (cell_of_row _ _ 0 _ _ (0, 0) (below_kept HB.out k_v0)).trans rfl
  have x1 : v0.cell? ⟨w.heap.size, 1, none⟩ = some (.int .i64 x.r.e) := (cell_of_row _ _ 1 _ _ (0, 0) (below_kept HB.out k_v0)).trans rfl
  have x2 : v0.cell? ⟨w.heap.size, 2, none⟩ = some (.slice s0 n0 c0) := (cell_of_row _ _ 2 _ _ (0, 0) (below_kept HB.out k_v0)).trans rfl
  have x3 : v0.cell? ⟨w.heap.size, 3, none⟩ = some (.slice s1 n1 c1) := (cell_of_row _ _ 3 _ _ (0, 0) (below_kept HB.out k_v0)).trans rfl
  have x4 : v0.cell? ⟨w.heap.size, 4, none⟩ = some (.int .i64 x.s.v) := (cell_of_row _ _ 4 _ _ (0, 0) (below_kept HB.out k_v0)).trans rfl
  have x5 : v0.cell? ⟨w.heap.size, 5, none⟩ = some (.int .i64 x.s.e) := (cell_of_row _ _ 5 _ _ (0, 0) (below_kept HB.out k_v0)).trans rfl
  have x6 : v0.cell? ⟨w.heap.size, 6, none⟩ = some (.int .i64 x.s.lv) := (cell_of_row _ _ 6 _ _ (0, 0) (below_kept HB.out k_v0)).trans rfl
  have x7 : v0.cell? ⟨w.heap.size, 7, none⟩ = some (.int .u64 x.s.lh) := (cell_of_row _ _ 7 _ _ (0, 0) (below_kept HB.out k_v0)).trans rfl
  have x8 : v0.cell? ⟨w.heap.size, 8, none⟩ = some (.slice s2 n2 c2) := (cell_of_row _ _ 8 _ _ (0, 0) (below_kept HB.out k_v0)).trans rfl
  have x9 : v0.cell? ⟨w.heap.size, 9, none⟩ = some (.int .i64 x.l.v) := (cell_of_row _ _ 9 _ _ (0, 0) (below_kept HB.out k_v0)).trans rfl
  have x10 : v0.cell? ⟨w.heap.size, 10, none⟩ = some (.int .i64 x.l.e) := (cell_of_row _ _ 10 _ _ (0, 0) (below_kept HB.out k_v0)).trans rfl
  have x11 : v0.cell? ⟨w.heap.size, 11, none⟩ = some (.slice s3 n3 c3) := (cell_of_row _ _ 11 _ _ (0, 0) (below_kept HB.out k_v0)).trans rfl
  have x12 : v0.cell? ⟨w.heap.size, 12, none⟩ = some (.slice s4 n4 c4) := (cell_of_row _ _ 12 _ _ (0, 0) (below_kept HB.out k_v0)).trans rfl
  cases b0 with
  | false =>
    have HF : Hid (¬ truP x key at2 now) := fun hr => by have := HE.out.2 ⟨hr.1, .inr hr.2.1, .inr hr.2.2.1⟩; cases this
    clear HE
    go_wp2
    go_ret
    exact saysG_f HF.out m_v0
  | true =>
  have HST : Hid (stateP x) := HE.out.1 rfl
  clear HE
  by_cases hzs : x.s.v = 0
  · have qs : (x.s.v == 0) = true := beq_iff_eq.2 hzs
    have HF : Hid (¬ truP x key at2 now) := fun ht => by have := ht.2.1.1.1; omega
    clear hzs
    go_wp2
    go_ret
    exact saysG_f HF.out m_v0
  have qs : (x.s.v == 0) = false := beq_false_of_ne hzs
  have HZs : Hid (¬ x.s.v = 0) := hzs
  clear hzs
  by_cases hzl : x.l.v = 0
  · have ql : (x.l.v == 0) = true := beq_iff_eq.2 hzl
    have HF : Hid (¬ truP x key at2 now) := fun ht => by have := ht.2.2.1.1.1; omega
    clear hzl
    go_wp2
    go_ret
    exact saysG_f HF.out m_v0
  have ql : (x.l.v == 0) = false := beq_false_of_ne hzl
  have HZl : Hid (¬ x.l.v = 0) := hzl
  clear hzl
  by_cases hla : x.r.e ≤ now
  · have h2 : decide (x.r.e ≤ now) = true := decide_eq_true hla
    have h3 : decide (now ≥ x.r.e) = true := decide_eq_true hla
    have HF : Hid (¬ truP x key at2 now) := fun ht => by have := ht.2.2.2.1; omega
    clear hla
    go_wp2
    go_ret
    exact saysG_f HF.out m_v0
  have h2a : decide (x.r.e ≤ now) = false := decide_eq_false hla
  have h3a : decide (now ≥ x.r.e) = false := decide_eq_false hla
  have HLa : Hid (¬ x.r.e ≤ now) := hla
  clear hla
  by_cases hlb : x.s.e ≤ now
  · have h2 : decide (x.s.e ≤ now) = true := decide_eq_true hlb
    have h3 : decide (now ≥ x.s.e) = true := decide_eq_true hlb
    have HF : Hid (¬ truP x key at2 now) := fun ht => by have := ht.2.2.2.1; omega
    clear hlb
    go_wp2
    go_ret
    exact saysG_f HF.out m_v0
  have h2b : decide (x.s.e ≤ now) = false := decide_eq_false hlb
  have h3b : decide (now ≥ x.s.e) = false := decide_eq_false hlb
  have HLb : Hid (¬ x.s.e ≤ now) := hlb
  clear hlb
  by_cases hlc : x.l.e ≤ now
  · have h2 : decide (x.l.e ≤ now) = true := decide_eq_true hlc
    have h3 : decide (now ≥ x.l.e) = true := decide_eq_true hlc
    have HF : Hid (¬ truP x key at2 now) := fun ht => by have := ht.2.2.2.1; omega
    clear hlc
    go_wp2
    go_ret
    exact saysG_f HF.out m_v0
  have h2c : decide (x.l.e ≤ now) = false := decide_eq_false hlc
  have h3c : decide (now ≥ x.l.e) = false := decide_eq_false hlc
  have HLc : Hid (¬ x.l.e ≤ now) := hlc
  clear hlc
  have HP3 : Hid (rootP x.r ∧ stampP x.s ∧ listP x.l) := ⟨HST.out.1, HST.out.2.1.resolve_left HZs.out, HST.out.2.2.resolve_left HZl.out⟩
  have HLT : Hid (now < x.r.e ∧ now < x.s.e ∧ now < x.l.e) := ⟨by have := HLa.out; omega, by have := HLb.out; omega, by have := HLc.out; omega⟩
  clear HST HZs HZl HLa HLb HLc
  have HB0 : Hid (v0.heap[w.heap.size]? = some (.cells #[.int .i64 x.r.v, .int .i64 x.r.e, .slice s0 n0 c0, .slice s1 n1 c1, .int .i64 x.s.v, .int .i64 x.s.e, .int .i64 x.s.lv, .int .u64 x.s.lh, .slice s2 n2 c2, .int .i64 x.l.v, .int .i64 x.l.e, .slice s3 n3 c3, .slice s4 n4 c4] 60 (0, 0))) := below_kept HB.out k_v0
  have HBB : v0.heap.size ≤ v0.heap.size := Nat.le_refl _
  go_upto_region 3 with fail
  clear x0 x1 x2 x3 x4 x5 x6 x7 x8 x9 x10 x11 x12 qs ql h2a h3a h2b h3b h2c h3c
  by_cases hvn : x.l.v = x.s.lv
  case neg =>
    have HVN : Hid ((x.l.v != x.s.lv) = true) := by show _ = _; simpa using hvn
    have HF : Hid (¬ truP x key at2 now) := fun ht => hvn ht.2.2.2.2.1
    obtain ⟨l, hl0⟩ : ∃ l : List Int, l = [] := ⟨_, rfl⟩
    obtain ⟨cb, hcb0⟩ : ∃ cb : Bool, cb = true := ⟨_, rfl⟩
    clear hl0 hcb0 hvn
    refine wp_region_rk (tq5a x s0 n0 c0 s1 n1 c1 s2 n2 c2 s3 n3 c3 s4 n4 c4 l cb w.heap.size (v0.heap.size)) [46, 47, 48, 49, 50, 51, 52, 53, 54, 55, 56, 57, 58, 59, 60, 61, 62] (v0.heap.size) (fun a0 => a0.tmps.size = 91 ∧ aT a0 4 = .pointer (some ⟨w.heap.size, 0, none⟩)) (by kernel_rfl) rfl (by kernel_rfl) rfl ⟨rfl, rfl⟩ (tq5a_stb x s0 n0 c0 s1 n1 c1 s2 n2 c2 s3 n3 c3 s4 n4 c4 l cb w.heap.size (v0.heap.size)) ?_ ?_ ?_
    · intro k hk hk2
      match k, hk, hk2 with
      | 17, _, _ => exact HB0.out
      | 0, hk, _ => exact absurd hk (by show ¬ (17 ≤ 0); omega)
      | 1, hk, _ => exact absurd hk (by show ¬ (17 ≤ 1); omega)
      | 2, hk, _ => exact absurd hk (by show ¬ (17 ≤ 2); omega)
      | 3, hk, _ => exact absurd hk (by show ¬ (17 ≤ 3); omega)
      | 4, hk, _ => exact absurd hk (by show ¬ (17 ≤ 4); omega)
      | 5, hk, _ => exact absurd hk (by show ¬ (17 ≤ 5); omega)
      | 6, hk, _ => exact absurd hk (by show ¬ (17 ≤ 6); omega)
      | 7, hk, _ => exact absurd hk (by show ¬ (17 ≤ 7); omega)
      | 8, hk, _ => exact absurd hk (by show ¬ (17 ≤ 8); omega)
      | 9, hk, _ => exact absurd hk (by show ¬ (17 ≤ 9); omega)
      | 10, hk, _ => exact absurd hk (by show ¬ (17 ≤ 10); omega)
      | 11, hk, _ => exact absurd hk (by show ¬ (17 ≤ 11); omega)
      | 12, hk, _ => exact absurd hk (by show ¬ (17 ≤ 12); omega)
      | 13, hk, _ => exact absurd hk (by show ¬ (17 ≤ 13); omega)
      | 14, hk, _ => exact absurd hk (by show ¬ (17 ≤ 14); omega)
      | 15, hk, _ => exact absurd hk (by show ¬ (17 ≤ 15); omega)
      | 16, hk, _ => exact absurd hk (by show ¬ (17 ≤ 16); omega)
      | k + 18, _, hk2 => exact absurd hk2 (by show ¬ (k + 18 < 18); omega)
    · rintro a0 ⟨hz, g4⟩
      refine StepsRK.cons ?_ (StepsRK.cons ?_ (StepsRK.cons ?_ (StepsRK.cons ?_ (StepsRK.cons ?_ (StepsRK.cons ?_ (StepsRK.cons ?_ (StepsRK.cons ?_ (StepsRK.cons ?_ (StepsRK.cons ?_ (StepsRK.cons ?_ (StepsRK.cons ?_ (StepsRK.cons ?_ (StepsRK.cons ?_ (StepsRK.cons ?_ (StepsRK.cons ?_ (StepsRK.cons ?_ (StepsRK.nil)))))))))))))))))
      · intro lQ b W hI hUN hED KQ hKQ
        refine rk_plain rfl ?_
        exact opw_field 60 4 2 rfl _ ((hI.fr.same 4 (by decide)).trans g4) _ (by kernel_rfl) (hKQ.out _ _ (hI.put 0 46 rfl rfl (by rw [hz]; decide) rfl hUN rfl HBB (tq5a_stb x s0 n0 c0 s1 n1 c1 s2 n2 c2 s3 n3 c3 s4 n4 c4 l cb w.heap.size (v0.heap.size)) (Below.refl _ _) rfl))
      · intro lQ b W hI hUN hED KQ hKQ
        refine rk_plain rfl ?_
        have f : aT b 46 = .pointer (some ⟨w.heap.size, 9, none⟩) := hI.got 0 (of_decide_eq_true rfl) (edge hED 0 (by kernel_rfl)) rfl
        exact opw_field 46 46 0 rfl _ f _ (by kernel_rfl) (hKQ.out _ _ (hI.put 1 47 rfl rfl (by rw [hz]; decide) rfl hUN rfl HBB (tq5a_stb x s0 n0 c0 s1 n1 c1 s2 n2 c2 s3 n3 c3 s4 n4 c4 l cb w.heap.size (v0.heap.size)) (Below.refl _ _) rfl))
      · intro lQ b W hI hUN hED KQ hKQ
        refine rk_plain rfl ?_
        have f : aT b 47 = .pointer (some ⟨w.heap.size, 9, none⟩) := hI.got 1 (of_decide_eq_true rfl) (edge hED 1 (by kernel_rfl)) rfl
        have hg := (hI.vot 17 (of_decide_eq_true rfl) (of_decide_eq_true rfl) rfl)
        have q0 : W.cell? ⟨w.heap.size, 9, none⟩ = some (.int .i64 x.l.v) := (cell_of_row _ _ 9 _ _ (0, 0) hg).trans rfl
        exact opw_load1 2 47 rfl _ f (.int .i64 x.l.v) (by simp [Instr.loadAt, go_sem, q0]) (hKQ.out _ _ (hI.put 2 48 rfl rfl (by rw [hz]; decide) rfl hUN rfl HBB (tq5a_stb x s0 n0 c0 s1 n1 c1 s2 n2 c2 s3 n3 c3 s4 n4 c4 l cb w.heap.size (v0.heap.size)) (Below.refl _ _) rfl))
      · intro lQ b W hI hUN hED KQ hKQ
        refine rk_plain rfl ?_
        exact opw_field 60 4 1 rfl _ ((hI.fr.same 4 (by decide)).trans g4) _ (by kernel_rfl) (hKQ.out _ _ (hI.put 3 49 rfl rfl (by rw [hz]; decide) rfl hUN rfl HBB (tq5a_stb x s0 n0 c0 s1 n1 c1 s2 n2 c2 s3 n3 c3 s4 n4 c4 l cb w.heap.size (v0.heap.size)) (Below.refl _ _) rfl))
      · intro lQ b W hI hUN hED KQ hKQ
        refine rk_plain rfl ?_
        have f : aT b 49 = .pointer (some ⟨w.heap.size, 4, none⟩) := hI.got 3 (of_decide_eq_true rfl) (edge hED 3 (by kernel_rfl)) rfl
        exact opw_field 43 49 2 rfl _ f _ (by kernel_rfl) (hKQ.out _ _ (hI.put 4 50 rfl rfl (by rw [hz]; decide) rfl hUN rfl HBB (tq5a_stb x s0 n0 c0 s1 n1 c1 s2 n2 c2 s3 n3 c3 s4 n4 c4 l cb w.heap.size (v0.heap.size)) (Below.refl _ _) rfl))
      · intro lQ b W hI hUN hED KQ hKQ
        refine rk_plain rfl ?_
        have f : aT b 50 = .pointer (some ⟨w.heap.size, 6, none⟩) := hI.got 4 (of_decide_eq_true rfl) (edge hED 4 (by kernel_rfl)) rfl
        have hg := (hI.vot 17 (of_decide_eq_true rfl) (of_decide_eq_true rfl) rfl)
        have q0 : W.cell? ⟨w.heap.size, 6, none⟩ = some (.int .i64 x.s.lv) := (cell_of_row _ _ 6 _ _ (0, 0) hg).trans rfl
        exact opw_load1 2 50 rfl _ f (.int .i64 x.s.lv) (by simp [Instr.loadAt, go_sem, q0]) (hKQ.out _ _ (hI.put 5 51 rfl rfl (by rw [hz]; decide) rfl hUN rfl HBB (tq5a_stb x s0 n0 c0 s1 n1 c1 s2 n2 c2 s3 n3 c3 s4 n4 c4 l cb w.heap.size (v0.heap.size)) (Below.refl _ _) rfl))
      · intro lQ b W hI hUN hED KQ hKQ
        refine rk_plain rfl ?_
        have fa : aT b 48 = .int .i64 (x.l.v) := hI.got 2 (of_decide_eq_true rfl) (edge hED 2 (by kernel_rfl)) rfl
        have fb : aT b 51 = .int .i64 (x.s.lv) := hI.got 5 (of_decide_eq_true rfl) (edge hED 5 (by kernel_rfl)) rfl
        exact opw_neq 2 _ 48 51 rfl .i64 _ _ fa fb true HVN.out (hKQ.out _ _ (hI.put 6 52 rfl rfl (by rw [hz]; decide) rfl hUN rfl HBB (tq5a_stb x s0 n0 c0 s1 n1 c1 s2 n2 c2 s3 n3 c3 s4 n4 c4 l cb w.heap.size (v0.heap.size)) (Below.refl _ _) rfl))
      · intro lQ b W hI hUN hED KQ hKQ
        refine rk_plain rfl ?_
        have f := hI.got 6 (of_decide_eq_true rfl) (edge hED 6 (by kernel_rfl)) rfl
        exact opw_move 52 rfl (hKQ.out _ _ (hI.put 7 53 rfl rfl (by rw [hz]; decide) rfl hUN rfl HBB (tq5a_stb x s0 n0 c0 s1 n1 c1 s2 n2 c2 s3 n3 c3 s4 n4 c4 l cb w.heap.size (v0.heap.size)) (Below.refl _ _) f))
      · intro lQ b W hI hUN hED KQ hKQ
        exact rk_skip 7 false 53 (.bool true) rfl rfl (hI.got 7 (of_decide_eq_true rfl) (edge hED 7 (by kernel_rfl)) rfl) rfl (hKQ.out _ _ (hI.put 8 54 rfl rfl (by rw [hz]; decide) rfl hUN rfl HBB (tq5a_stb x s0 n0 c0 s1 n1 c1 s2 n2 c2 s3 n3 c3 s4 n4 c4 l cb w.heap.size (v0.heap.size)) (Below.refl _ _) rfl))
      · intro lQ b W hI hUN hED KQ hKQ
        exact rk_skip 7 false 53 (.bool true) rfl rfl (hI.got 7 (of_decide_eq_true rfl) (edge hED 7 (by kernel_rfl)) rfl) rfl (hKQ.out _ _ (hI.put 9 55 rfl rfl (by rw [hz]; decide) rfl hUN rfl HBB (tq5a_stb x s0 n0 c0 s1 n1 c1 s2 n2 c2 s3 n3 c3 s4 n4 c4 l cb w.heap.size (v0.heap.size)) (Below.refl _ _) rfl))
      · intro lQ b W hI hUN hED KQ hKQ
        exact rk_skip 7 false 53 (.bool true) rfl rfl (hI.got 7 (of_decide_eq_true rfl) (edge hED 7 (by kernel_rfl)) rfl) rfl (hKQ.out _ _ (hI.put 10 56 rfl rfl (by rw [hz]; decide) rfl hUN rfl HBB (tq5a_stb x s0 n0 c0 s1 n1 c1 s2 n2 c2 s3 n3 c3 s4 n4 c4 l cb w.heap.size (v0.heap.size)) (Below.refl _ _) rfl))
      · intro lQ b W hI hUN hED KQ hKQ
        exact rk_skip 7 false 53 (.bool true) rfl rfl (hI.got 7 (of_decide_eq_true rfl) (edge hED 7 (by kernel_rfl)) rfl) rfl (hKQ.out _ _ (hI.put 11 57 rfl rfl (by rw [hz]; decide) rfl hUN rfl HBB (tq5a_stb x s0 n0 c0 s1 n1 c1 s2 n2 c2 s3 n3 c3 s4 n4 c4 l cb w.heap.size (v0.heap.size)) (Below.refl _ _) rfl))
      · intro lQ b W hI hUN hED KQ hKQ
        exact rk_skip 7 false 53 (.bool true) rfl rfl (hI.got 7 (of_decide_eq_true rfl) (edge hED 7 (by kernel_rfl)) rfl) rfl (hKQ.out _ _ (hI.put 12 58 rfl rfl (by rw [hz]; decide) rfl hUN rfl HBB (tq5a_stb x s0 n0 c0 s1 n1 c1 s2 n2 c2 s3 n3 c3 s4 n4 c4 l cb w.heap.size (v0.heap.size)) (Below.refl _ _) rfl))
      · intro lQ b W hI hUN hED KQ hKQ
        exact rk_skip 7 false 53 (.bool true) rfl rfl (hI.got 7 (of_decide_eq_true rfl) (edge hED 7 (by kernel_rfl)) rfl) rfl (hKQ.out _ _ (hI.put 13 59 rfl rfl (by rw [hz]; decide) rfl hUN rfl HBB (tq5a_stb x s0 n0 c0 s1 n1 c1 s2 n2 c2 s3 n3 c3 s4 n4 c4 l cb w.heap.size (v0.heap.size)) (Below.refl _ _) rfl))
      · intro lQ b W hI hUN hED KQ hKQ
        exact rk_skip 7 false 53 (.bool true) rfl rfl (hI.got 7 (of_decide_eq_true rfl) (edge hED 7 (by kernel_rfl)) rfl) rfl (hKQ.out _ _ (hI.put 14 60 rfl rfl (by rw [hz]; decide) rfl hUN rfl HBB (tq5a_stb x s0 n0 c0 s1 n1 c1 s2 n2 c2 s3 n3 c3 s4 n4 c4 l cb w.heap.size (v0.heap.size)) (Below.refl _ _) rfl))
      · intro lQ b W hI hUN hED KQ hKQ
        exact rk_skip 7 false 53 (.bool true) rfl rfl (hI.got 7 (of_decide_eq_true rfl) (edge hED 7 (by kernel_rfl)) rfl) rfl (hKQ.out _ _ (hI.put 15 61 rfl rfl (by rw [hz]; decide) rfl hUN rfl HBB (tq5a_stb x s0 n0 c0 s1 n1 c1 s2 n2 c2 s3 n3 c3 s4 n4 c4 l cb w.heap.size (v0.heap.size)) (Below.refl _ _) rfl))
      · intro lQ b W hI hUN hED KQ hKQ
        refine rk_plain rfl ?_
        have fc : aT b 53 = .bool true := hI.got 7 (of_decide_eq_true rfl) (edge hED 7 (by kernel_rfl)) rfl
        exact opw_pick_t 53 _ _ rfl fc _ rfl (hKQ.out _ _ (hI.put 16 62 rfl rfl (by rw [hz]; decide) rfl hUN rfl HBB (tq5a_stb x s0 n0 c0 s1 n1 c1 s2 n2 c2 s3 n3 c3 s4 n4 c4 l cb w.heap.size (v0.heap.size)) (Below.refl _ _) rfl))
    · intro b W hf hb F
      have e62 : aT b 62 = .bool true := F 16 (of_decide_eq_true rfl) rfl
      rw [hf.eq]
      simp only [puts, Act.put, List.setIfInBounds_toArray, List.set_cons_zero, List.set_cons_succ, e62]
      clear hf F e62
      generalize aT b = AT
      clear b
      have m3 : Below w.heap.size w W := keepT hbb (keepT k_v0 hb)
      go_wp2
      go_ret
      exact saysG_f HF.out m3
  have HVN : Hid ((x.l.v != x.s.lv) = false) := by show _ = _; simpa using hvn
  have HVE : Hid (x.l.v = x.s.lv) := hvn
  clear hvn
  obtain ⟨ks, hks⟩ : ∃ ks, ks = x.l.es.map (fun p => enI p.1 p.2) := ⟨_, rfl⟩
  obtain ⟨l, hl0⟩ : ∃ l, l = lbB x.l.v x.l.e x.l.es := ⟨_, rfl⟩
  obtain ⟨cb, hcb0⟩ : ∃ cb : Bool, cb = (hashL l != x.s.lh) := ⟨_, rfl⟩
  have h20 : n3 ≤ 20 := by have := HP3.out.2.2.2.2.2.1; rw [HLN.out] at this; exact this
  have HLL : Hid (l.length ≤ 5000) := by show _ ≤ _; rw [hl0]; exact (lbB_enc x.l.v x.l.e x.l.es (by rw [HLN.out]; exact h20)).2
  have hle := (lbB_enc x.l.v x.l.e x.l.es (by rw [HLN.out]; exact h20)).1
  unfold lbI at hle
  rw [← hks, ← hl0] at hle
  have HLB : Hid (∀ W, RowTe W s3 n3 x.l.es → Calls Tryz.prog 27 #[.agg #[.int .i64 x.l.v, .int .i64 x.l.e, .slice s3 n3 c3, .slice s4 n4 c4]] W fun r w' => ∃ a' c', r = .returned (.slice a' l.length c') ∧ Own W.heap.size w' a' l.length c' l ∧ Below W.heap.size W w') := fun W hW => l22ListBody_any x.l ks hks s3 n3 c3 s4 n4 c4 l W hW (by omega) hle
  have HTE : Hid (∀ W, Below v0.heap.size v0 W → RowTe W s3 n3 x.l.es) := fun W hW => (HR.out _ (keepT hbb (keepT k_v0 hW))).r3
  have HCB : Hid ((hashL l != x.s.lh) = cb) := hcb0.symm
  have HLD : Hid (l = lbB x.l.v x.l.e x.l.es) := hl0
  have HTQ : Hid (hashL (lbB x.l.v x.l.e x.l.es) = x.s.lh → (∃ k, k < x.l.es.length ∧ (x.l.es.getD k (0, 0)).1 = key ∧ at2 ≤ (x.l.es.getD k (0, 0)).2) → truP x key at2 now) := fun h1 h2 => ⟨HP3.out.1, HP3.out.2.1, HP3.out.2.2, HLT.out, HVE.out, h1, h2⟩
  clear hks hl0 hcb0 hle HP3 HLT
  refine wp_region_rk (tq5b x s0 n0 c0 s1 n1 c1 s2 n2 c2 s3 n3 c3 s4 n4 c4 l cb w.heap.size (v0.heap.size)) [46, 47, 48, 49, 50, 51, 52, 53, 54, 55, 56, 57, 58, 59, 60, 61, 62] (v0.heap.size) (fun a0 => a0.tmps.size = 91 ∧ aT a0 4 = .pointer (some ⟨w.heap.size, 0, none⟩)) (by kernel_rfl) rfl (by kernel_rfl) rfl ⟨rfl, rfl⟩ (tq5b_stb x s0 n0 c0 s1 n1 c1 s2 n2 c2 s3 n3 c3 s4 n4 c4 l cb w.heap.size (v0.heap.size)) ?_ ?_ ?_
  · intro k hk hk2
    match k, hk, hk2 with
    | 17, _, _ => exact HB0.out
    | 0, hk, _ => exact absurd hk (by show ¬ (17 ≤ 0); omega)
    | 1, hk, _ => exact absurd hk (by show ¬ (17 ≤ 1); omega)
    | 2, hk, _ => exact absurd hk (by show ¬ (17 ≤ 2); omega)
    | 3, hk, _ => exact absurd hk (by show ¬ (17 ≤ 3); omega)
    | 4, hk, _ => exact absurd hk (by show ¬ (17 ≤ 4); omega)
    | 5, hk, _ => exact absurd hk (by show ¬ (17 ≤ 5); omega)
    | 6, hk, _ => exact absurd hk (by show ¬ (17 ≤ 6); omega)
    | 7, hk, _ => exact absurd hk (by show ¬ (17 ≤ 7); omega)
    | 8, hk, _ => exact absurd hk (by show ¬ (17 ≤ 8); omega)
    | 9, hk, _ => exact absurd hk (by show ¬ (17 ≤ 9); omega)
    | 10, hk, _ => exact absurd hk (by show ¬ (17 ≤ 10); omega)
    | 11, hk, _ => exact absurd hk (by show ¬ (17 ≤ 11); omega)
    | 12, hk, _ => exact absurd hk (by show ¬ (17 ≤ 12); omega)
    | 13, hk, _ => exact absurd hk (by show ¬ (17 ≤ 13); omega)
    | 14, hk, _ => exact absurd hk (by show ¬ (17 ≤ 14); omega)
    | 15, hk, _ => exact absurd hk (by show ¬ (17 ≤ 15); omega)
    | 16, hk, _ => exact absurd hk (by show ¬ (17 ≤ 16); omega)
    | k + 18, _, hk2 => exact absurd hk2 (by show ¬ (k + 18 < 18); omega)
  · rintro a0 ⟨hz, g4⟩
    refine StepsRK.cons ?_ (StepsRK.cons ?_ (StepsRK.cons ?_ (StepsRK.cons ?_ (StepsRK.cons ?_ (StepsRK.cons ?_ (StepsRK.cons ?_ (StepsRK.cons ?_ (StepsRK.cons ?_ (StepsRK.cons ?_ (StepsRK.cons ?_ (StepsRK.cons ?_ (StepsRK.cons ?_ (StepsRK.cons ?_ (StepsRK.cons ?_ (StepsRK.cons ?_ (StepsRK.cons ?_ (StepsRK.nil)))))))))))))))))
    · intro lQ b W hI hUN hED KQ hKQ
      refine rk_plain rfl ?_
      exact opw_field 60 4 2 rfl _ ((hI.fr.same 4 (by decide)).trans g4) _ (by kernel_rfl) (hKQ.out _ _ (hI.put 0 46 rfl rfl (by rw [hz]; decide) rfl hUN rfl HBB (tq5b_stb x s0 n0 c0 s1 n1 c1 s2 n2 c2 s3 n3 c3 s4 n4 c4 l cb w.heap.size (v0.heap.size)) (Below.refl _ _) rfl))
    · intro lQ b W hI hUN hED KQ hKQ
      refine rk_plain rfl ?_
      have f : aT b 46 = .pointer (some ⟨w.heap.size, 9, none⟩) := hI.got 0 (of_decide_eq_true rfl) (edge hED 0 (by kernel_rfl)) rfl
      exact opw_field 46 46 0 rfl _ f _ (by kernel_rfl) (hKQ.out _ _ (hI.put 1 47 rfl rfl (by rw [hz]; decide) rfl hUN rfl HBB (tq5b_stb x s0 n0 c0 s1 n1 c1 s2 n2 c2 s3 n3 c3 s4 n4 c4 l cb w.heap.size (v0.heap.size)) (Below.refl _ _) rfl))
    · intro lQ b W hI hUN hED KQ hKQ
      refine rk_plain rfl ?_
      have f : aT b 47 = .pointer (some ⟨w.heap.size, 9, none⟩) := hI.got 1 (of_decide_eq_true rfl) (edge hED 1 (by kernel_rfl)) rfl
      have hg := (hI.vot 17 (of_decide_eq_true rfl) (of_decide_eq_true rfl) rfl)
      have q0 : W.cell? ⟨w.heap.size, 9, none⟩ = some (.int .i64 x.l.v) := (cell_of_row _ _ 9 _ _ (0, 0) hg).trans rfl
      exact opw_load1 2 47 rfl _ f (.int .i64 x.l.v) (by simp [Instr.loadAt, go_sem, q0]) (hKQ.out _ _ (hI.put 2 48 rfl rfl (by rw [hz]; decide) rfl hUN rfl HBB (tq5b_stb x s0 n0 c0 s1 n1 c1 s2 n2 c2 s3 n3 c3 s4 n4 c4 l cb w.heap.size (v0.heap.size)) (Below.refl _ _) rfl))
    · intro lQ b W hI hUN hED KQ hKQ
      refine rk_plain rfl ?_
      exact opw_field 60 4 1 rfl _ ((hI.fr.same 4 (by decide)).trans g4) _ (by kernel_rfl) (hKQ.out _ _ (hI.put 3 49 rfl rfl (by rw [hz]; decide) rfl hUN rfl HBB (tq5b_stb x s0 n0 c0 s1 n1 c1 s2 n2 c2 s3 n3 c3 s4 n4 c4 l cb w.heap.size (v0.heap.size)) (Below.refl _ _) rfl))
    · intro lQ b W hI hUN hED KQ hKQ
      refine rk_plain rfl ?_
      have f : aT b 49 = .pointer (some ⟨w.heap.size, 4, none⟩) := hI.got 3 (of_decide_eq_true rfl) (edge hED 3 (by kernel_rfl)) rfl
      exact opw_field 43 49 2 rfl _ f _ (by kernel_rfl) (hKQ.out _ _ (hI.put 4 50 rfl rfl (by rw [hz]; decide) rfl hUN rfl HBB (tq5b_stb x s0 n0 c0 s1 n1 c1 s2 n2 c2 s3 n3 c3 s4 n4 c4 l cb w.heap.size (v0.heap.size)) (Below.refl _ _) rfl))
    · intro lQ b W hI hUN hED KQ hKQ
      refine rk_plain rfl ?_
      have f : aT b 50 = .pointer (some ⟨w.heap.size, 6, none⟩) := hI.got 4 (of_decide_eq_true rfl) (edge hED 4 (by kernel_rfl)) rfl
      have hg := (hI.vot 17 (of_decide_eq_true rfl) (of_decide_eq_true rfl) rfl)
      have q0 : W.cell? ⟨w.heap.size, 6, none⟩ = some (.int .i64 x.s.lv) := (cell_of_row _ _ 6 _ _ (0, 0) hg).trans rfl
      exact opw_load1 2 50 rfl _ f (.int .i64 x.s.lv) (by simp [Instr.loadAt, go_sem, q0]) (hKQ.out _ _ (hI.put 5 51 rfl rfl (by rw [hz]; decide) rfl hUN rfl HBB (tq5b_stb x s0 n0 c0 s1 n1 c1 s2 n2 c2 s3 n3 c3 s4 n4 c4 l cb w.heap.size (v0.heap.size)) (Below.refl _ _) rfl))
    · intro lQ b W hI hUN hED KQ hKQ
      refine rk_plain rfl ?_
      have fa : aT b 48 = .int .i64 (x.l.v) := hI.got 2 (of_decide_eq_true rfl) (edge hED 2 (by kernel_rfl)) rfl
      have fb : aT b 51 = .int .i64 (x.s.lv) := hI.got 5 (of_decide_eq_true rfl) (edge hED 5 (by kernel_rfl)) rfl
      exact opw_neq 2 _ 48 51 rfl .i64 _ _ fa fb false HVN.out (hKQ.out _ _ (hI.put 6 52 rfl rfl (by rw [hz]; decide) rfl hUN rfl HBB (tq5b_stb x s0 n0 c0 s1 n1 c1 s2 n2 c2 s3 n3 c3 s4 n4 c4 l cb w.heap.size (v0.heap.size)) (Below.refl _ _) rfl))
    · intro lQ b W hI hUN hED KQ hKQ
      refine rk_plain rfl ?_
      have f := hI.got 6 (of_decide_eq_true rfl) (edge hED 6 (by kernel_rfl)) rfl
      exact opw_move 52 rfl (hKQ.out _ _ (hI.put 7 53 rfl rfl (by rw [hz]; decide) rfl hUN rfl HBB (tq5b_stb x s0 n0 c0 s1 n1 c1 s2 n2 c2 s3 n3 c3 s4 n4 c4 l cb w.heap.size (v0.heap.size)) (Below.refl _ _) f))
    · intro lQ b W hI hUN hED KQ hKQ
      refine rk_take 7 false 53 rfl rfl (hI.got 7 (of_decide_eq_true rfl) (edge hED 7 (by kernel_rfl)) rfl) ?_
      exact opw_field 60 4 2 rfl _ ((hI.fr.same 4 (by decide)).trans g4) _ (by kernel_rfl) (hKQ.out _ _ (hI.put 8 54 rfl rfl (by rw [hz]; decide) rfl hUN rfl HBB (tq5b_stb x s0 n0 c0 s1 n1 c1 s2 n2 c2 s3 n3 c3 s4 n4 c4 l cb w.heap.size (v0.heap.size)) (Below.refl _ _) rfl))
    · intro lQ b W hI hUN hED KQ hKQ
      refine rk_take 7 false 53 rfl rfl (hI.got 7 (of_decide_eq_true rfl) (edge hED 7 (by kernel_rfl)) rfl) ?_
      have f : aT b 54 = .pointer (some ⟨w.heap.size, 9, none⟩) := hI.got 8 (of_decide_eq_true rfl) (edge hED 8 (by kernel_rfl)) rfl
      have hg := (hI.vot 17 (of_decide_eq_true rfl) (of_decide_eq_true rfl) rfl)
      have q0 : W.cell? ⟨w.heap.size, 9, none⟩ = some (.int .i64 x.l.v) := (cell_of_row _ _ 9 _ _ (0, 0) hg).trans rfl
      have q1 : W.cell? ⟨w.heap.size, 10, none⟩ = some (.int .i64 x.l.e) := (cell_of_row _ _ 10 _ _ (0, 0) hg).trans rfl
      have q2 : W.cell? ⟨w.heap.size, 11, none⟩ = some (.slice s3 n3 c3) := (cell_of_row _ _ 11 _ _ (0, 0) hg).trans rfl
      have q3 : W.cell? ⟨w.heap.size, 12, none⟩ = some (.slice s4 n4 c4) := (cell_of_row _ _ 12 _ _ (0, 0) hg).trans rfl
      exact opw_load1 46 54 rfl _ f (.agg #[.int .i64 x.l.v, .int .i64 x.l.e, .slice s3 n3 c3, .slice s4 n4 c4]) (by simp [Instr.loadAt, go_sem, q0, q1, q2, q3]) (hKQ.out _ _ (hI.put 9 55 rfl rfl (by rw [hz]; decide) rfl hUN rfl HBB (tq5b_stb x s0 n0 c0 s1 n1 c1 s2 n2 c2 s3 n3 c3 s4 n4 c4 l cb w.heap.size (v0.heap.size)) (Below.refl _ _) rfl))
    · intro lQ b W hI hUN hED KQ hKQ
      refine rk_take 7 false 53 rfl rfl (hI.got 7 (of_decide_eq_true rfl) (edge hED 7 (by kernel_rfl)) rfl) ?_
      have f0 : aT b 55 = .agg #[.int .i64 x.l.v, .int .i64 x.l.e, .slice s3 n3 c3, .slice s4 n4 c4] := hI.got 9 (of_decide_eq_true rfl) (edge hED 9 (by kernel_rfl)) rfl
      refine opw_call 27 #[.tmp 55] _ _ _ rfl Tryz.func27 (by kernel_rfl) rfl #[.agg #[.int .i64 x.l.v, .int .i64 x.l.e, .slice s3 n3 c3, .slice s4 n4 c4]] (by simp [ev, f0]) ?_
      refine (HLB.out W (HTE.out W hI.bel)).mono ?_
      rintro r W2 ⟨a4, c5, rfl, ho, hb⟩
      exact ⟨_, rfl, hKQ.out _ _ (hI.put 10 56 rfl rfl (by rw [hz]; decide) rfl hUN rfl HBB (tq5b_stb x s0 n0 c0 s1 n1 c1 s2 n2 c2 s3 n3 c3 s4 n4 c4 l cb w.heap.size (v0.heap.size)) hb ⟨a4, c5, rfl, ho.mono hI.bel.size⟩)⟩
    · intro lQ b W hI hUN hED KQ hKQ
      refine rk_take 7 false 53 rfl rfl (hI.got 7 (of_decide_eq_true rfl) (edge hED 7 (by kernel_rfl)) rfl) ?_
      obtain ⟨a4, c5, f0, o0⟩ := hI.got 10 (of_decide_eq_true rfl) (edge hED 10 (by kernel_rfl)) rfl
      replace f0 : aT b 56 = .slice a4 l.length c5 := f0
      refine opw_call 39 #[.tmp 56] _ _ _ rfl Tryz.func39 (by kernel_rfl) rfl #[.slice a4 l.length c5] (by simp [ev, f0]) ?_
      refine (specHash_any a4 l.length c5 l W o0.toRow (Nat.le_trans HLL.out (by decide))).mono ?_
      rintro r W2 ⟨rfl, rfl⟩
      exact ⟨_, rfl, hKQ.out _ _ (hI.put 11 57 rfl rfl (by rw [hz]; decide) rfl hUN rfl HBB (tq5b_stb x s0 n0 c0 s1 n1 c1 s2 n2 c2 s3 n3 c3 s4 n4 c4 l cb w.heap.size (v0.heap.size)) (Below.refl _ _) rfl)⟩
    · intro lQ b W hI hUN hED KQ hKQ
      refine rk_take 7 false 53 rfl rfl (hI.got 7 (of_decide_eq_true rfl) (edge hED 7 (by kernel_rfl)) rfl) ?_
      exact opw_field 60 4 1 rfl _ ((hI.fr.same 4 (by decide)).trans g4) _ (by kernel_rfl) (hKQ.out _ _ (hI.put 12 58 rfl rfl (by rw [hz]; decide) rfl hUN rfl HBB (tq5b_stb x s0 n0 c0 s1 n1 c1 s2 n2 c2 s3 n3 c3 s4 n4 c4 l cb w.heap.size (v0.heap.size)) (Below.refl _ _) rfl))
    · intro lQ b W hI hUN hED KQ hKQ
      refine rk_take 7 false 53 rfl rfl (hI.got 7 (of_decide_eq_true rfl) (edge hED 7 (by kernel_rfl)) rfl) ?_
      have f : aT b 58 = .pointer (some ⟨w.heap.size, 4, none⟩) := hI.got 12 (of_decide_eq_true rfl) (edge hED 12 (by kernel_rfl)) rfl
      exact opw_field 43 58 3 rfl _ f _ (by kernel_rfl) (hKQ.out _ _ (hI.put 13 59 rfl rfl (by rw [hz]; decide) rfl hUN rfl HBB (tq5b_stb x s0 n0 c0 s1 n1 c1 s2 n2 c2 s3 n3 c3 s4 n4 c4 l cb w.heap.size (v0.heap.size)) (Below.refl _ _) rfl))
    · intro lQ b W hI hUN hED KQ hKQ
      refine rk_take 7 false 53 rfl rfl (hI.got 7 (of_decide_eq_true rfl) (edge hED 7 (by kernel_rfl)) rfl) ?_
      have f : aT b 59 = .pointer (some ⟨w.heap.size, 7, none⟩) := hI.got 13 (of_decide_eq_true rfl) (edge hED 13 (by kernel_rfl)) rfl
      have hg := (hI.vot 17 (of_decide_eq_true rfl) (of_decide_eq_true rfl) rfl)
      have q0 : W.cell? ⟨w.heap.size, 7, none⟩ = some (.int .u64 x.s.lh) := (cell_of_row _ _ 7 _ _ (0, 0) hg).trans rfl
      exact opw_load1 26 59 rfl _ f (.int .u64 x.s.lh) (by simp [Instr.loadAt, go_sem, q0]) (hKQ.out _ _ (hI.put 14 60 rfl rfl (by rw [hz]; decide) rfl hUN rfl HBB (tq5b_stb x s0 n0 c0 s1 n1 c1 s2 n2 c2 s3 n3 c3 s4 n4 c4 l cb w.heap.size (v0.heap.size)) (Below.refl _ _) rfl))
    · intro lQ b W hI hUN hED KQ hKQ
      refine rk_take 7 false 53 rfl rfl (hI.got 7 (of_decide_eq_true rfl) (edge hED 7 (by kernel_rfl)) rfl) ?_
      have fa : aT b 57 = .int .u64 (hashL l) := hI.got 11 (of_decide_eq_true rfl) (edge hED 11 (by kernel_rfl)) rfl
      have fb : aT b 60 = .int .u64 (x.s.lh) := hI.got 14 (of_decide_eq_true rfl) (edge hED 14 (by kernel_rfl)) rfl
      exact opw_neq 26 _ 57 60 rfl .u64 _ _ fa fb cb HCB.out (hKQ.out _ _ (hI.put 15 61 rfl rfl (by rw [hz]; decide) rfl hUN rfl HBB (tq5b_stb x s0 n0 c0 s1 n1 c1 s2 n2 c2 s3 n3 c3 s4 n4 c4 l cb w.heap.size (v0.heap.size)) (Below.refl _ _) rfl))
    · intro lQ b W hI hUN hED KQ hKQ
      refine rk_plain rfl ?_
      have fc : aT b 53 = .bool false := hI.got 7 (of_decide_eq_true rfl) (edge hED 7 (by kernel_rfl)) rfl
      have f := hI.got 15 (of_decide_eq_true rfl) (edge hED 15 (by kernel_rfl)) rfl
      replace f : aT b 61 = .bool cb := f
      exact opw_pick_f 53 _ _ rfl fc _ f (hKQ.out _ _ (hI.put 16 62 rfl rfl (by rw [hz]; decide) rfl hUN rfl HBB (tq5b_stb x s0 n0 c0 s1 n1 c1 s2 n2 c2 s3 n3 c3 s4 n4 c4 l cb w.heap.size (v0.heap.size)) (Below.refl _ _) rfl))
  · intro b W hf hb F
    have e62 : aT b 62 = .bool cb := F 16 (of_decide_eq_true rfl) rfl
    have HB3 : Hid (W.heap[w.heap.size]? = some (.cells #[.int .i64 x.r.v, .int .i64 x.r.e, .slice s0 n0 c0, .slice s1 n1 c1, .int .i64 x.s.v, .int .i64 x.s.e, .int .i64 x.s.lv, .int .u64 x.s.lh, .slice s2 n2 c2, .int .i64 x.l.v, .int .i64 x.l.e, .slice s3 n3 c3, .slice s4 n4 c4] 60 (0, 0))) := F 17 (of_decide_eq_true rfl) rfl
    rw [hf.eq]
    simp only [puts, Act.put, List.setIfInBounds_toArray, List.set_cons_zero, List.set_cons_succ, e62]
    clear hf F e62
    generalize aT b = AT
    clear b
    have m3 : Below w.heap.size w W := keepT hbb (keepT k_v0 hb)
    have x0 : W.cell? ⟨w.heap.size, 0, none⟩ = some (.int .i64 x.r.v) := (cell_of_row _ _ 0 _ _ (0, 0) HB3.out).trans rfl
    have x1 : W.cell? ⟨w.heap.size, 1, none⟩ = some (.int .i64 x.r.e) := (cell_of_row _ _ 1 _ _ (0, 0) HB3.out).trans rfl
    have x2 : W.cell? ⟨w.heap.size, 2, none⟩ = some (.slice s0 n0 c0) := (cell_of_row _ _ 2 _ _ (0, 0) HB3.out).trans rfl
    have x3 : W.cell? ⟨w.heap.size, 3, none⟩ = some (.slice s1 n1 c1) := (cell_of_row _ _ 3 _ _ (0, 0) HB3.out).trans rfl
    have x4 : W.cell? ⟨w.heap.size, 4, none⟩ = some (.int .i64 x.s.v) := (cell_of_row _ _ 4 _ _ (0, 0) HB3.out).trans rfl
    have x5 : W.cell? ⟨w.heap.size, 5, none⟩ = some (.int .i64 x.s.e) := (cell_of_row _ _ 5 _ _ (0, 0) HB3.out).trans rfl
    have x6 : W.cell? ⟨w.heap.size, 6, none⟩ = some (.int .i64 x.s.lv) := (cell_of_row _ _ 6 _ _ (0, 0) HB3.out).trans rfl
    have x7 : W.cell? ⟨w.heap.size, 7, none⟩ = some (.int .u64 x.s.lh) := (cell_of_row _ _ 7 _ _ (0, 0) HB3.out).trans rfl
    have x8 : W.cell? ⟨w.heap.size, 8, none⟩ = some (.slice s2 n2 c2) := (cell_of_row _ _ 8 _ _ (0, 0) HB3.out).trans rfl
    have x9 : W.cell? ⟨w.heap.size, 9, none⟩ = some (.int .i64 x.l.v) := (cell_of_row _ _ 9 _ _ (0, 0) HB3.out).trans rfl
    have x10 : W.cell? ⟨w.heap.size, 10, none⟩ = some (.int .i64 x.l.e) := (cell_of_row _ _ 10 _ _ (0, 0) HB3.out).trans rfl
    have x11 : W.cell? ⟨w.heap.size, 11, none⟩ = some (.slice s3 n3 c3) := (cell_of_row _ _ 11 _ _ (0, 0) HB3.out).trans rfl
    have x12 : W.cell? ⟨w.heap.size, 12, none⟩ = some (.slice s4 n4 c4) := (cell_of_row _ _ 12 _ _ (0, 0) HB3.out).trans rfl
    cases cb with
    | true =>
      have HF : Hid (¬ truP x key at2 now) := fun ht => by
        have h1 := HCB.out
        have h2 := ht.2.2.2.2.2.1
        rw [← HLD.out] at h2
        rw [h2] at h1
        simp at h1
      go_wp2
      go_ret
      exact saysG_f HF.out m3
    | false =>
    have HTR : Hid ((∃ k, k < x.l.es.length ∧ (x.l.es.getD k (0, 0)).1 = key ∧ at2 ≤ (x.l.es.getD k (0, 0)).2) → truP x key at2 now) := fun h => HTQ.out (by have h1 := HCB.out; rw [← HLD.out]; simpa using h1) h
    go_wp2
    go_loopw [9] (fun i wr => ∃ kq : Nat, kq ≤ n3 ∧ i = .int .i64 kq ∧ Hid (∀ j, j < kq → ¬ ((x.l.es.getD j (0, 0)).1 = key ∧ at2 ≤ (x.l.es.getD j (0, 0)).2)) ∧ W = wr) (fun i _ => n3 - (intOf i).toNat)
    case atStart => exact ⟨0, Nat.zero_le _, rfl, fun j hj => absurd hj (Nat.not_lt_zero _), rfl⟩
    case round =>
      obtain ⟨kq, hk, rfl, HE, rfl⟩ := hrel
      by_cases hlt : kq < n3
      · obtain ⟨b, off, rfl, hlb, e0, e1⟩ := (HR.out _ m3).r3.get kq hlt
        have hkni : (kq : Int) < (n3 : Int) := by omega
        obtain ⟨y, hy⟩ : ∃ y, y = x.l.es.getD kq (0, 0) := ⟨_, rfl⟩
        rw [← hy] at e0 e1
        have HY : Hid (y = x.l.es.getD kq (0, 0)) := hy
        clear hy
        by_cases hkey : y.1 = key
        · have qk : (y.1 == key) = true := beq_iff_eq.2 hkey
          by_cases hat : at2 ≤ y.2
          · have h2 : decide (at2 ≤ y.2) = true := decide_eq_true hat
            have h3 : decide (y.2 ≥ at2) = true := decide_eq_true hat
            have HT : Hid (truP x key at2 now) := HTR.out ⟨kq, by rw [HLN.out]; exact hlt, by rw [← HY.out]; exact hkey, by rw [← HY.out]; exact hat⟩
            clear hkey
            go_wp2
            go_ret
            exact saysG_t HT.out m3
          · have h2 : decide (at2 ≤ y.2) = false := decide_eq_false hat
            have h3 : decide (y.2 ≥ at2) = false := decide_eq_false hat
            have HN : Hid (∀ j, j < kq + 1 → ¬ ((x.l.es.getD j (0, 0)).1 = key ∧ at2 ≤ (x.l.es.getD j (0, 0)).2)) := fun j hj => by
              by_cases e : j < kq
              · exact HE.out j e
              · obtain rfl : j = kq := by omega
                rw [← HY.out]
                exact fun h => hat h.2
            clear hkey HE
            go_wp2
            go_roundw
            case rel => exact ⟨kq + 1, by omega, by go_num, HN, by trivial⟩
            case measure => simp [intOf]; omega
        · have qk : (y.1 == key) = false := beq_false_of_ne hkey
          have HN : Hid (∀ j, j < kq + 1 → ¬ ((x.l.es.getD j (0, 0)).1 = key ∧ at2 ≤ (x.l.es.getD j (0, 0)).2)) := fun j hj => by
            by_cases e : j < kq
            · exact HE.out j e
            · obtain rfl : j = kq := by omega
              rw [← HY.out]
              exact fun h => hkey h.1
          clear hkey HE
          go_wp2
          go_roundw
          case rel => exact ⟨kq + 1, by omega, by go_num, HN, by trivial⟩
          case measure => simp [intOf]; omega
      · obtain rfl : kq = n3 := by omega
        have HF : Hid (¬ truP x key at2 now) := fun ht => by
          obtain ⟨j, hj, hh⟩ := ht.2.2.2.2.2.2
          rw [HLN.out] at hj
          exact HE.out j hj hh
        go_wp2
        go_ret
        exact saysG_f HF.out m3

end Go.Proofs.YtglpbgebcpijaaaGreat

set_option linter.unusedVariables false
namespace Go.Proofs.YtglpbgebcpijaaaGreat
open Go.RowKit Go.Sort

structure TruB (w : World) (gk ga : Nat) (key at2 : Int) : Prop where
  lt : gk < w.heap.size ∧ ga < w.heap.size
  k0 : w.cell? ⟨gk, 0, none⟩ = some (.int .u64 key)
  a0 : w.cell? ⟨ga, 0, none⟩ = some (.int .i64 at2)
theorem TruB.kept {w w' : World} {gk ga : Nat} {key at2 : Int} (h : TruB w gk ga key at2) (hb : Below w.heap.size w w') : TruB w' gk ga key at2 := by
  obtain ⟨l1, l2⟩ := h.lt
  have hs := hb.size
  exact ⟨⟨by omega, by omega⟩, (hb.cell (p := ⟨gk, 0, none⟩) l1).trans h.k0, (hb.cell (p := ⟨ga, 0, none⟩) l2).trans h.a0⟩
def enB (key at2 : Int) (p : Int × Int) : Bool := decide (p.1 = key) && decide (at2 ≤ p.2)
theorem enB_iff (key at2 : Int) (p : Int × Int) : enB key at2 p = true ↔ p.1 = key ∧ at2 ≤ p.2 := by unfold enB; simp

set_option maxRecDepth 10000 in
set_option maxHeartbeats 2000000 in
theorem truClosure_any (gk ga : Nat) (key at2 : Int) (p : Int × Int) (w : World) (hB : TruB w gk ga key at2) :
    Calls Tryz.prog 47 #[.agg #[.int .u64 p.1, .int .i64 p.2], .pointer (some ⟨gk, 0, none⟩), .pointer (some ⟨ga, 0, none⟩)] w fun e w' => e = .returned (.bool (enB key at2 p)) ∧ Below w.heap.size w w' := by
  obtain ⟨wb, hwb⟩ : ∃ wb, wb = w.alloc (.cells #[.int .u64 p.1, .int .i64 p.2] 91) := ⟨_, rfl⟩
  have hbb : Below w.heap.size w wb := by rw [hwb]; exact (Below.refl _ _).alloc (Nat.le_refl _) _
  have hblk : wb.heap[w.heap.size]? = some (.cells #[.int .u64 p.1, .int .i64 p.2] 91 (0, 0)) := by rw [hwb]; exact heap_alloc_new w _
  have q0 : wb.cell? ⟨w.heap.size, 0, none⟩ = some (.int .u64 p.1) := (cell_of_row _ _ 0 _ _ (0, 0) hblk).trans rfl
  have q1 : wb.cell? ⟨w.heap.size, 1, none⟩ = some (.int .i64 p.2) := (cell_of_row _ _ 1 _ _ (0, 0) hblk).trans rfl
  have q2 := (hB.kept hbb).k0
  have q3 := (hB.kept hbb).a0
  have HW : Hid (_ = _) := hwb
  clear hwb hblk hB
  by_cases c1 : p.1 = key
  · by_cases c2 : at2 ≤ p.2
    · have d1 : (p.1 == key) = true := beq_iff_eq.2 c1
      have d2 : decide (at2 ≤ p.2) = true := decide_eq_true c2
      have d3 : decide (p.2 ≥ at2) = true := decide_eq_true c2
      have HV : Hid (enB key at2 p = true) := by show _ = _; unfold enB; rw [decide_eq_true c1, d2]; rfl
      clear c1 c2
      go_enter Tryz.func47, Tryz.ntmps47
      go_upto_region 1 with fail
      rw [← HW.out]
      clear HW
      go_wp2
      go_ret
      exact ⟨by rw [HV.out]; rfl, hbb⟩
    · have d1 : (p.1 == key) = true := beq_iff_eq.2 c1
      have d2 : decide (at2 ≤ p.2) = false := decide_eq_false c2
      have d3 : decide (p.2 ≥ at2) = false := decide_eq_false c2
      have HV : Hid (enB key at2 p = false) := by show _ = _; unfold enB; rw [d2]; simp
      clear c1 c2
      go_enter Tryz.func47, Tryz.ntmps47
      go_upto_region 1 with fail
      rw [← HW.out]
      clear HW
      go_wp2
      go_ret
      exact ⟨by rw [HV.out]; rfl, hbb⟩
  · have d1 : (p.1 == key) = false := beq_false_of_ne c1
    have HV : Hid (enB key at2 p = false) := by show _ = _; unfold enB; rw [decide_eq_false c1]; rfl
    clear c1
    go_enter Tryz.func47, Tryz.ntmps47
    go_upto_region 1 with fail
    rw [← HW.out]
    clear HW
    go_wp2
    go_ret
    exact ⟨by rw [HV.out]; rfl, hbb⟩

set_option maxRecDepth 10000 in
set_option maxHeartbeats 4000000 in
theorem indexTru_any (gk ga : Nat) (key at2 : Int) (es : List (Int × Int)) (a : Option Addr) (n c : Nat) (w : World) (hB : TruB w gk ga key at2) (h : RowTe w a n es) (hmx : n ≤ 9223372036854775807) :
    Calls Tryz.prog 84 #[.slice a n c, .func (Fn.func 47) #[] #[.pointer (some ⟨gk, 0, none⟩), .pointer (some ⟨ga, 0, none⟩)]] w fun e w' => ∃ i : Int, e = .returned (.int .i64 i) ∧ Hid (0 ≤ i ↔ ∃ k, k < n ∧ enB key at2 (es.getD k (0, 0)) = true) ∧ Below w.heap.size w w' := by
  have H0 : Hid (RowTe w a n es) := h
  have HB : Hid (TruB w gk ga key at2) := hB
  clear h hB
  go_enter Tryz.func84, Tryz.ntmps84
  go_wp2
  go_loopw [8] (fun i wr => ∃ k : Nat, k ≤ n ∧ i = .int .i64 k ∧ Hid (∀ j, j < k → enB key at2 (es.getD j (0, 0)) = false) ∧ Below w.heap.size w wr) (fun i _ => n - (intOf i).toNat)
  case atStart => exact ⟨0, Nat.zero_le _, rfl, fun k hk => absurd hk (Nat.not_lt_zero _), Below.refl _ _⟩
  case round =>
    obtain ⟨k, hk, rfl, HN, hbr⟩ := hrel
    by_cases hlt : k < n
    · obtain ⟨b, off, rfl, hlb, x0, x1⟩ := (H0.out.kept hbr).get k hlt
      obtain ⟨q, hq⟩ : ∃ q, q = es.getD k (0, 0) := ⟨_, rfl⟩
      rw [← hq] at x0 x1
      have HQ : Hid (es.getD k (0, 0) = q) := hq.symm
      clear hq
      have hlti : (k : Int) < (n : Int) := by omega
      go_wp2_with fail
      refine (truClosure_any gk ga key at2 q _ (HB.out.kept hbr)).mono ?_
      rintro e w2 ⟨rfl, hb2⟩
      have B2 := keepT hbr hb2
      clear x0 x1
      cases hs : enB key at2 q with
      | true =>
        have HT : Hid (∃ k, k < n ∧ enB key at2 (es.getD k (0, 0)) = true) := ⟨k, hlt, by rw [HQ.out]; exact hs⟩
        go_wp2
        go_ret
        exact ⟨_, rfl, ⟨fun _ => HT.out, fun _ => by omega⟩, B2⟩
      | false =>
        have HN2 : Hid (∀ j, j < k + 1 → enB key at2 (es.getD j (0, 0)) = false) := fun j hj => by
          by_cases e : j < k
          · exact HN.out j e
          · obtain rfl : j = k := by omega
            rw [HQ.out]; exact hs
        go_wp2
        go_roundw
        case rel => exact ⟨k + 1, by omega, by go_num, HN2, B2⟩
        case measure => simp [intOf]; omega
    · obtain rfl : k = n := by omega
      have HF : Hid (¬ ∃ j, j < k ∧ enB key at2 (es.getD j (0, 0)) = true) := fun ⟨j, hj, h2⟩ => by have := HN.out j hj; rw [h2] at this; cases this
      go_wp2
      go_ret
      exact ⟨_, rfl, ⟨fun h => absurd h (by decide), fun h => absurd h HF.out⟩, hbr⟩

set_option maxRecDepth 10000 in
set_option maxHeartbeats 1000000 in
theorem containsTru_any (gk ga : Nat) (key at2 : Int) (es : List (Int × Int)) (a : Option Addr) (n c : Nat) (w : World) (hB : TruB w gk ga key at2) (h : RowTe w a n es) (hmx : n ≤ 9223372036854775807) :
    Calls Tryz.prog 46 #[.slice a n c, .func (Fn.func 47) #[] #[.pointer (some ⟨gk, 0, none⟩), .pointer (some ⟨ga, 0, none⟩)]] w (SaysG (∃ k, k < n ∧ enB key at2 (es.getD k (0, 0)) = true) w) := by
  have H0 : Hid (RowTe w a n es) := h
  have HB : Hid (TruB w gk ga key at2) := hB
  clear h hB
  go_enter Tryz.func46, Tryz.ntmps46
  go_wp2_with fail
  refine (indexTru_any gk ga key at2 es a n c _ HB.out H0.out hmx).mono ?_
  rintro e w1 ⟨i, rfl, hi, hb1⟩
  by_cases h0 : 0 ≤ i
  · have d2 : decide (0 ≤ i) = true := decide_eq_true h0
    have d3 : decide (i ≥ 0) = true := decide_eq_true h0
    have HT : Hid _ := hi.out.1 h0
    go_wp2
    go_ret
    exact saysG_t HT.out hb1
  · have d2 : decide (0 ≤ i) = false := decide_eq_false h0
    have d3 : decide (i ≥ 0) = false := decide_eq_false h0
    have HF : Hid (¬ _) := fun h => h0 (hi.out.2 h)
    go_wp2
    go_ret
    exact saysG_f HF.out hb1

end Go.Proofs.YtglpbgebcpijaaaGreat

set_option linter.unusedVariables false
namespace Go.Proofs.YtglpbgebcpijaaaGreat
open Go.RowKit Go.Sort

theorem listP_rng {x : LfP} (h : listP x) : I64R x.es ∧ (-9223372036854775808 ≤ x.v ∧ x.v ≤ 9223372036854775807) ∧ (-9223372036854775808 ≤ x.e ∧ x.e ≤ 9223372036854775807) := by
  refine ⟨fun k => ?_, by have h1 : 1 ≤ x.v ∧ x.v ≤ 1099511627776 := h.1; omega, by have h1 : 0 ≤ x.e ∧ x.e ≤ 253402300799 := h.2.1; omega⟩
  by_cases hk : k < x.es.length
  · have h1 : 0 ≤ (x.es.getD k (0, 0)).2 ∧ (x.es.getD k (0, 0)).2 ≤ 253402300799 := h.2.2.2.2 k hk
    omega
  · have e : x.es.getD k (0, 0) = (0, 0) := by simp [List.getElem?_eq_none (Nat.le_of_not_lt hk)]
    rw [e]
    exact ⟨by decide, by decide⟩
/-- What is known of a region (RJ). -/
def tn2a (z : SfP) (x : LfP) (s1 : Option Addr) (n1 c1 : Nat) (s2 : Option Addr) (n2 c2 : Nat) (s3 : Option Addr) (n3 c3 : Nat) (l : List Int) (cb : Bool) (G B : Nat) : RSpec where
  m := 15
  n := 17
  slots := [5, 6, 7, 8, 9, 10, 11, 12, 13, 14, 15, 16, 17, 18, 4, 100015, 100016]
  kills := [[], [], [], [], [], [], [], [], [], [], [], [], [], [], [], [], []]
  pres := [[], [], [], [], [], [], [], [], [], [], [], [], [], [], [], [], []]
  fact := fun k v w => match k with
    | 0 => v = .pointer (some ⟨G, 3, none⟩)
    | 1 => v = .int .i64 z.lv
    | 2 => v = .pointer (some ⟨(G + 1), 0, none⟩)
    | 3 => v = .pointer (some ⟨(G + 1), 0, none⟩)
    | 4 => v = .int .i64 x.v
    | 5 => v = .bool false
    | 6 => v = .bool false
    | 7 => v = undef
    | 8 => v = undef
    | 9 => v = undef
    | 10 => v = undef
    | 11 => v = undef
    | 12 => v = undef
    | 13 => v = .bool false
    | 14 => v = .bool false
    | 15 => w.heap[G]? = some (.cells #[.int .i64 z.v, .int .i64 z.e, .slice s1 n1 c1, .int .i64 z.lv, .int .u64 z.lh] 97 (0, 0))
    | _ => w.heap[(G + 1)]? = some (.cells #[.int .i64 x.v, .int .i64 x.e, .slice s2 n2 c2, .slice s3 n3 c3] 99 (0, 0))
set_option linter.unusedVariables false in
theorem tn2a_stb (z : SfP) (x : LfP) (s1 : Option Addr) (n1 c1 : Nat) (s2 : Option Addr) (n2 c2 : Nat) (s3 : Option Addr) (n3 c3 : Nat) (l : List Int) (cb : Bool) (G B : Nat) (k : Nat) (hk : k < 17) : StB ((tn2a z x s1 n1 c1 s2 n2 c2 s3 n3 c3 l cb G (B)).fact k) := by
  match k, hk with
  | 0, _ => exact fun _ _ _ h _ => h
  | 1, _ => exact fun _ _ _ h _ => h
  | 2, _ => exact fun _ _ _ h _ => h
  | 3, _ => exact fun _ _ _ h _ => h
  | 4, _ => exact fun _ _ _ h _ => h
  | 5, _ => exact fun _ _ _ h _ => h
  | 6, _ => exact fun _ _ _ h _ => h
  | 7, _ => exact fun _ _ _ h _ => h
  | 8, _ => exact fun _ _ _ h _ => h
  | 9, _ => exact fun _ _ _ h _ => h
  | 10, _ => exact fun _ _ _ h _ => h
  | 11, _ => exact fun _ _ _ h _ => h
  | 12, _ => exact fun _ _ _ h _ => h
  | 13, _ => exact fun _ _ _ h _ => h
  | 14, _ => exact fun _ _ _ h _ => h
  | 15, _ => exact fun _ _ _ q_0 hb => below_kept q_0 hb
  | 16, _ => exact fun _ _ _ q_0 hb => below_kept q_0 hb
  | k + 17, hk => omega

/-- What is known of a region (RJ). -/
def tn2b (z : SfP) (x : LfP) (s1 : Option Addr) (n1 c1 : Nat) (s2 : Option Addr) (n2 c2 : Nat) (s3 : Option Addr) (n3 c3 : Nat) (l : List Int) (cb : Bool) (G B : Nat) : RSpec where
  m := 15
  n := 17
  slots := [5, 6, 7, 8, 9, 10, 11, 12, 13, 14, 15, 16, 17, 18, 4, 100015, 100016]
  kills := [[], [], [], [], [], [], [], [], [], [], [], [], [], [], [], [], []]
  pres := [[], [], [], [], [], [], [], [], [], [], [], [], [], [], [], [], []]
  fact := fun k v w => match k with
    | 0 => v = .pointer (some ⟨G, 3, none⟩)
    | 1 => v = .int .i64 z.lv
    | 2 => v = .pointer (some ⟨(G + 1), 0, none⟩)
    | 3 => v = .pointer (some ⟨(G + 1), 0, none⟩)
    | 4 => v = .int .i64 x.v
    | 5 => v = .bool true
    | 6 => v = .bool true
    | 7 => v = .pointer (some ⟨G, 4, none⟩)
    | 8 => v = .int .u64 z.lh
    | 9 => v = .agg #[.int .i64 x.v, .int .i64 x.e, .slice s2 n2 c2, .slice s3 n3 c3]
    | 10 => ∃ a4 c5, v = .slice a4 l.length c5 ∧ Own B w a4 l.length c5 l
    | 11 => v = .int .u64 (hashL l)
    | 12 => v = .bool cb
    | 13 => v = .bool cb
    | 14 => v = .bool cb
    | 15 => w.heap[G]? = some (.cells #[.int .i64 z.v, .int .i64 z.e, .slice s1 n1 c1, .int .i64 z.lv, .int .u64 z.lh] 97 (0, 0))
    | _ => w.heap[(G + 1)]? = some (.cells #[.int .i64 x.v, .int .i64 x.e, .slice s2 n2 c2, .slice s3 n3 c3] 99 (0, 0))
set_option linter.unusedVariables false in
theorem tn2b_stb (z : SfP) (x : LfP) (s1 : Option Addr) (n1 c1 : Nat) (s2 : Option Addr) (n2 c2 : Nat) (s3 : Option Addr) (n3 c3 : Nat) (l : List Int) (cb : Bool) (G B : Nat) (k : Nat) (hk : k < 17) : StB ((tn2b z x s1 n1 c1 s2 n2 c2 s3 n3 c3 l cb G (B)).fact k) := by
  match k, hk with
  | 0, _ => exact fun _ _ _ h _ => h
  | 1, _ => exact fun _ _ _ h _ => h
  | 2, _ => exact fun _ _ _ h _ => h
  | 3, _ => exact fun _ _ _ h _ => h
  | 4, _ => exact fun _ _ _ h _ => h
  | 5, _ => exact fun _ _ _ h _ => h
  | 6, _ => exact fun _ _ _ h _ => h
  | 7, _ => exact fun _ _ _ h _ => h
  | 8, _ => exact fun _ _ _ h _ => h
  | 9, _ => exact fun _ _ _ h _ => h
  | 10, _ => exact fun _ _ _ ⟨a4, c5, hv, q_0⟩ hb => ⟨a4, c5, hv, q_0.kept hb⟩
  | 11, _ => exact fun _ _ _ h _ => h
  | 12, _ => exact fun _ _ _ h _ => h
  | 13, _ => exact fun _ _ _ h _ => h
  | 14, _ => exact fun _ _ _ h _ => h
  | 15, _ => exact fun _ _ _ q_0 hb => below_kept q_0 hb
  | 16, _ => exact fun _ _ _ q_0 hb => below_kept q_0 hb
  | k + 17, hk => omega

set_option maxRecDepth 10000 in
set_option maxHeartbeats 8000000 in
theorem names_any (z : SfP) (x : LfP) (s1 : Option Addr) (n1 c1 : Nat) (s2 : Option Addr) (n2 c2 : Nat) (s3 : Option Addr) (n3 c3 : Nat) (w : World) (hr : RowTe w s3 n3 x.es) (hp : listP x) :
    Calls Tryz.prog 45 #[.agg #[.int .i64 z.v, .int .i64 z.e, .slice s1 n1 c1, .int .i64 z.lv, .int .u64 z.lh], .agg #[.int .i64 x.v, .int .i64 x.e, .slice s2 n2 c2, .slice s3 n3 c3]] w (SaysG (z.lv = x.v ∧ z.lh = hashL (lbB x.v x.e x.es)) w) := by
  obtain ⟨w1, hw1⟩ : ∃ w1, w1 = (w.alloc (.cells #[.int .i64 z.v, .int .i64 z.e, .slice s1 n1 c1, .int .i64 z.lv, .int .u64 z.lh] 97)).alloc (.cells #[.int .i64 x.v, .int .i64 x.e, .slice s2 n2 c2, .slice s3 n3 c3] 99) := ⟨_, rfl⟩
  have hbb : Below w.heap.size w w1 := by rw [hw1]; exact ((Below.refl _ _).alloc (Nat.le_refl _) _).alloc (by simp) _
  have HB1 : Hid (_ ∧ _) := two_blocks w (.cells #[.int .i64 z.v, .int .i64 z.e, .slice s1 n1 c1, .int .i64 z.lv, .int .u64 z.lh] 97) (.cells #[.int .i64 x.v, .int .i64 x.e, .slice s2 n2 c2, .slice s3 n3 c3] 99)
  rw [← hw1] at HB1
  have HBB : w1.heap.size ≤ w1.heap.size := Nat.le_refl _
  have HLN : Hid (x.es.length = n3) := hr.len
  have HTE : Hid (∀ W, Below w1.heap.size w1 W → RowTe W s3 n3 x.es) := fun W hW => hr.kept (keepT hbb hW)
  have HPP : Hid (listP x) := hp
  have HW : Hid (_ = _) := hw1
  clear hw1 hr hp
  by_cases hvn : z.lv = x.v
  case neg =>
    have HVN : Hid ((z.lv == x.v) = false) := beq_false_of_ne hvn
    have HF : Hid (¬ (z.lv = x.v ∧ z.lh = hashL (lbB x.v x.e x.es))) := fun ht => hvn ht.1
    obtain ⟨l, hl0⟩ : ∃ l : List Int, l = [] := ⟨_, rfl⟩
    obtain ⟨cb, hcb0⟩ : ∃ cb : Bool, cb = true := ⟨_, rfl⟩
    clear hl0 hcb0 hvn
    go_enter Tryz.func45, Tryz.ntmps45
    go_upto_region 1 with fail
    rw [← HW.out]
    clear HW
    refine wp_region_rk (tn2a z x s1 n1 c1 s2 n2 c2 s3 n3 c3 l cb w.heap.size (w1.heap.size)) [4, 5, 6, 7, 8, 9, 10, 11, 12, 13, 14, 15, 16, 17, 18] (w1.heap.size) (fun a0 => a0.tmps.size = 19 ∧ aT a0 2 = .pointer (some ⟨w.heap.size, 0, none⟩) ∧ aT a0 3 = .pointer (some ⟨(w.heap.size + 1), 0, none⟩)) (by kernel_rfl) rfl (by kernel_rfl) rfl ⟨rfl, rfl, rfl⟩ (tn2a_stb z x s1 n1 c1 s2 n2 c2 s3 n3 c3 l cb w.heap.size (w1.heap.size)) ?_ ?_ ?_
    · intro k hk hk2
      match k, hk, hk2 with
      | 15, _, _ => exact HB1.out.1
      | 16, _, _ => exact HB1.out.2
      | 0, hk, _ => exact absurd hk (by show ¬ (15 ≤ 0); omega)
      | 1, hk, _ => exact absurd hk (by show ¬ (15 ≤ 1); omega)
      | 2, hk, _ => exact absurd hk (by show ¬ (15 ≤ 2); omega)
      | 3, hk, _ => exact absurd hk (by show ¬ (15 ≤ 3); omega)
      | 4, hk, _ => exact absurd hk (by show ¬ (15 ≤ 4); omega)
      | 5, hk, _ => exact absurd hk (by show ¬ (15 ≤ 5); omega)
      | 6, hk, _ => exact absurd hk (by show ¬ (15 ≤ 6); omega)
      | 7, hk, _ => exact absurd hk (by show ¬ (15 ≤ 7); omega)
      | 8, hk, _ => exact absurd hk (by show ¬ (15 ≤ 8); omega)
      | 9, hk, _ => exact absurd hk (by show ¬ (15 ≤ 9); omega)
      | 10, hk, _ => exact absurd hk (by show ¬ (15 ≤ 10); omega)
      | 11, hk, _ => exact absurd hk (by show ¬ (15 ≤ 11); omega)
      | 12, hk, _ => exact absurd hk (by show ¬ (15 ≤ 12); omega)
      | 13, hk, _ => exact absurd hk (by show ¬ (15 ≤ 13); omega)
      | 14, hk, _ => exact absurd hk (by show ¬ (15 ≤ 14); omega)
      | k + 17, _, hk2 => exact absurd hk2 (by show ¬ (k + 17 < 17); omega)
    · rintro a0 ⟨hz, g2, g3⟩
      refine StepsRK.cons ?_ (StepsRK.cons ?_ (StepsRK.cons ?_ (StepsRK.cons ?_ (StepsRK.cons ?_ (StepsRK.cons ?_ (StepsRK.cons ?_ (StepsRK.cons ?_ (StepsRK.cons ?_ (StepsRK.cons ?_ (StepsRK.cons ?_ (StepsRK.cons ?_ (StepsRK.cons ?_ (StepsRK.cons ?_ (StepsRK.cons ?_ (StepsRK.nil)))))))))))))))
      · intro lQ b W hI hUN hED KQ hKQ
        refine rk_plain rfl ?_
        exact opw_field 97 2 1 rfl _ ((hI.fr.same 2 (by decide)).trans g2) _ (by kernel_rfl) (hKQ.out _ _ (hI.put 0 5 rfl rfl (by rw [hz]; decide) rfl hUN rfl HBB (tn2a_stb z x s1 n1 c1 s2 n2 c2 s3 n3 c3 l cb w.heap.size (w1.heap.size)) (Below.refl _ _) rfl))
      · intro lQ b W hI hUN hED KQ hKQ
        refine rk_plain rfl ?_
        have f : aT b 5 = .pointer (some ⟨w.heap.size, 3, none⟩) := hI.got 0 (of_decide_eq_true rfl) (edge hED 0 (by kernel_rfl)) rfl
        have hg := (hI.vot 15 (of_decide_eq_true rfl) (of_decide_eq_true rfl) rfl)
        have q0 : W.cell? ⟨w.heap.size, 3, none⟩ = some (.int .i64 z.lv) := (cell_of_row _ _ 3 _ _ (0, 0) hg).trans rfl
        exact opw_load1 2 5 rfl _ f (.int .i64 z.lv) (by simp [Instr.loadAt, go_sem, q0]) (hKQ.out _ _ (hI.put 1 6 rfl rfl (by rw [hz]; decide) rfl hUN rfl HBB (tn2a_stb z x s1 n1 c1 s2 n2 c2 s3 n3 c3 l cb w.heap.size (w1.heap.size)) (Below.refl _ _) rfl))
      · intro lQ b W hI hUN hED KQ hKQ
        refine rk_plain rfl ?_
        exact opw_field 99 3 0 rfl _ ((hI.fr.same 3 (by decide)).trans g3) _ (by kernel_rfl) (hKQ.out _ _ (hI.put 2 7 rfl rfl (by rw [hz]; decide) rfl hUN rfl HBB (tn2a_stb z x s1 n1 c1 s2 n2 c2 s3 n3 c3 l cb w.heap.size (w1.heap.size)) (Below.refl _ _) rfl))
      · intro lQ b W hI hUN hED KQ hKQ
        refine rk_plain rfl ?_
        have f : aT b 7 = .pointer (some ⟨(w.heap.size + 1), 0, none⟩) := hI.got 2 (of_decide_eq_true rfl) (edge hED 2 (by kernel_rfl)) rfl
        exact opw_field 93 7 0 rfl _ f _ (by kernel_rfl) (hKQ.out _ _ (hI.put 3 8 rfl rfl (by rw [hz]; decide) rfl hUN rfl HBB (tn2a_stb z x s1 n1 c1 s2 n2 c2 s3 n3 c3 l cb w.heap.size (w1.heap.size)) (Below.refl _ _) rfl))
      · intro lQ b W hI hUN hED KQ hKQ
        refine rk_plain rfl ?_
        have f : aT b 8 = .pointer (some ⟨(w.heap.size + 1), 0, none⟩) := hI.got 3 (of_decide_eq_true rfl) (edge hED 3 (by kernel_rfl)) rfl
        have hg := (hI.vot 16 (of_decide_eq_true rfl) (of_decide_eq_true rfl) rfl)
        have q0 : W.cell? ⟨(w.heap.size + 1), 0, none⟩ = some (.int .i64 x.v) := (cell_of_row _ _ 0 _ _ (0, 0) hg).trans rfl
        exact opw_load1 2 8 rfl _ f (.int .i64 x.v) (by simp [Instr.loadAt, go_sem, q0]) (hKQ.out _ _ (hI.put 4 9 rfl rfl (by rw [hz]; decide) rfl hUN rfl HBB (tn2a_stb z x s1 n1 c1 s2 n2 c2 s3 n3 c3 l cb w.heap.size (w1.heap.size)) (Below.refl _ _) rfl))
      · intro lQ b W hI hUN hED KQ hKQ
        refine rk_plain rfl ?_
        have fa : aT b 6 = .int .i64 (z.lv) := hI.got 1 (of_decide_eq_true rfl) (edge hED 1 (by kernel_rfl)) rfl
        have fb : aT b 9 = .int .i64 (x.v) := hI.got 4 (of_decide_eq_true rfl) (edge hED 4 (by kernel_rfl)) rfl
        exact opw_eql 2 _ 6 9 rfl .i64 _ _ fa fb false HVN.out (hKQ.out _ _ (hI.put 5 10 rfl rfl (by rw [hz]; decide) rfl hUN rfl HBB (tn2a_stb z x s1 n1 c1 s2 n2 c2 s3 n3 c3 l cb w.heap.size (w1.heap.size)) (Below.refl _ _) rfl))
      · intro lQ b W hI hUN hED KQ hKQ
        refine rk_plain rfl ?_
        have f := hI.got 5 (of_decide_eq_true rfl) (edge hED 5 (by kernel_rfl)) rfl
        exact opw_move 10 rfl (hKQ.out _ _ (hI.put 6 11 rfl rfl (by rw [hz]; decide) rfl hUN rfl HBB (tn2a_stb z x s1 n1 c1 s2 n2 c2 s3 n3 c3 l cb w.heap.size (w1.heap.size)) (Below.refl _ _) f))
      · intro lQ b W hI hUN hED KQ hKQ
        exact rk_skip 6 true 11 (.bool false) rfl rfl (hI.got 6 (of_decide_eq_true rfl) (edge hED 6 (by kernel_rfl)) rfl) rfl (hKQ.out _ _ (hI.put 7 12 rfl rfl (by rw [hz]; decide) rfl hUN rfl HBB (tn2a_stb z x s1 n1 c1 s2 n2 c2 s3 n3 c3 l cb w.heap.size (w1.heap.size)) (Below.refl _ _) rfl))
      · intro lQ b W hI hUN hED KQ hKQ
        exact rk_skip 6 true 11 (.bool false) rfl rfl (hI.got 6 (of_decide_eq_true rfl) (edge hED 6 (by kernel_rfl)) rfl) rfl (hKQ.out _ _ (hI.put 8 13 rfl rfl (by rw [hz]; decide) rfl hUN rfl HBB (tn2a_stb z x s1 n1 c1 s2 n2 c2 s3 n3 c3 l cb w.heap.size (w1.heap.size)) (Below.refl _ _) rfl))
      · intro lQ b W hI hUN hED KQ hKQ
        exact rk_skip 6 true 11 (.bool false) rfl rfl (hI.got 6 (of_decide_eq_true rfl) (edge hED 6 (by kernel_rfl)) rfl) rfl (hKQ.out _ _ (hI.put 9 14 rfl rfl (by rw [hz]; decide) rfl hUN rfl HBB (tn2a_stb z x s1 n1 c1 s2 n2 c2 s3 n3 c3 l cb w.heap.size (w1.heap.size)) (Below.refl _ _) rfl))
      · intro lQ b W hI hUN hED KQ hKQ
        exact rk_skip 6 true 11 (.bool false) rfl rfl (hI.got 6 (of_decide_eq_true rfl) (edge hED 6 (by kernel_rfl)) rfl) rfl (hKQ.out _ _ (hI.put 10 15 rfl rfl (by rw [hz]; decide) rfl hUN rfl HBB (tn2a_stb z x s1 n1 c1 s2 n2 c2 s3 n3 c3 l cb w.heap.size (w1.heap.size)) (Below.refl _ _) rfl))
      · intro lQ b W hI hUN hED KQ hKQ
        exact rk_skip 6 true 11 (.bool false) rfl rfl (hI.got 6 (of_decide_eq_true rfl) (edge hED 6 (by kernel_rfl)) rfl) rfl (hKQ.out _ _ (hI.put 11 16 rfl rfl (by rw [hz]; decide) rfl hUN rfl HBB (tn2a_stb z x s1 n1 c1 s2 n2 c2 s3 n3 c3 l cb w.heap.size (w1.heap.size)) (Below.refl _ _) rfl))
      · intro lQ b W hI hUN hED KQ hKQ
        exact rk_skip 6 true 11 (.bool false) rfl rfl (hI.got 6 (of_decide_eq_true rfl) (edge hED 6 (by kernel_rfl)) rfl) rfl (hKQ.out _ _ (hI.put 12 17 rfl rfl (by rw [hz]; decide) rfl hUN rfl HBB (tn2a_stb z x s1 n1 c1 s2 n2 c2 s3 n3 c3 l cb w.heap.size (w1.heap.size)) (Below.refl _ _) rfl))
      · intro lQ b W hI hUN hED KQ hKQ
        refine rk_plain rfl ?_
        have fc : aT b 11 = .bool false := hI.got 6 (of_decide_eq_true rfl) (edge hED 6 (by kernel_rfl)) rfl
        exact opw_pick_f 11 _ _ rfl fc _ rfl (hKQ.out _ _ (hI.put 13 18 rfl rfl (by rw [hz]; decide) rfl hUN rfl HBB (tn2a_stb z x s1 n1 c1 s2 n2 c2 s3 n3 c3 l cb w.heap.size (w1.heap.size)) (Below.refl _ _) rfl))
      · intro lQ b W hI hUN hED KQ hKQ
        refine rk_plain rfl ?_
        have f := hI.got 13 (of_decide_eq_true rfl) (edge hED 13 (by kernel_rfl)) rfl
        exact opw_assign 18 rfl (hKQ.out _ _ (hI.put 14 4 rfl rfl (by rw [hz]; decide) rfl hUN rfl HBB (tn2a_stb z x s1 n1 c1 s2 n2 c2 s3 n3 c3 l cb w.heap.size (w1.heap.size)) (Below.refl _ _) f))
    · intro b W hf hb F
      have e4 : aT b 4 = .bool false := F 14 (of_decide_eq_true rfl) rfl
      rw [hf.eq]
      simp only [puts, Act.put, List.setIfInBounds_toArray, List.set_cons_zero, List.set_cons_succ, e4]
      clear hf F e4
      generalize aT b = AT
      clear b
      have m3 : Below w.heap.size w W := keepT hbb hb
      go_wp2
      go_ret
      exact saysG_f HF.out m3
  have HVN : Hid ((z.lv == x.v) = true) := beq_iff_eq.2 hvn
  have HVE : Hid (z.lv = x.v) := hvn
  clear hvn
  obtain ⟨ks, hks⟩ : ∃ ks, ks = x.es.map (fun p => enI p.1 p.2) := ⟨_, rfl⟩
  obtain ⟨l, hl0⟩ : ∃ l, l = lbB x.v x.e x.es := ⟨_, rfl⟩
  obtain ⟨cb, hcb0⟩ : ∃ cb : Bool, cb = (z.lh == hashL l) := ⟨_, rfl⟩
  have h20 : x.es.length ≤ 20 := HPP.out.2.2.2.1
  have h21 : n3 ≤ 20 := by rw [← HLN.out]; exact h20
  have HLL : Hid (l.length ≤ 5000) := by show _ ≤ _; rw [hl0]; exact (lbB_enc x.v x.e x.es h20).2
  have hle := (lbB_enc x.v x.e x.es h20).1
  unfold lbI at hle
  rw [← hks, ← hl0] at hle
  have HLB : Hid (∀ W, RowTe W s3 n3 x.es → Calls Tryz.prog 83 #[.agg #[.int .i64 x.v, .int .i64 x.e, .slice s2 n2 c2, .slice s3 n3 c3]] W fun r w' => ∃ a' c', r = .returned (.slice a' l.length c') ∧ Own W.heap.size w' a' l.length c' l ∧ Below W.heap.size W w') := fun W hW => listBody_any x ks hks s3 n3 c3 s2 n2 c2 l W hW (listP_rng HPP.out).1 (by omega) (listP_rng HPP.out).2.1 (listP_rng HPP.out).2.2 hle
  have HCB : Hid ((z.lh == hashL l) = cb) := hcb0.symm
  have HQ : Hid (cb = true ↔ z.lv = x.v ∧ z.lh = hashL (lbB x.v x.e x.es)) := by
    show _ ↔ _
    rw [hcb0, ← hl0, beq_iff_eq]
    exact ⟨fun h => ⟨HVE.out, h⟩, fun h => h.2⟩
  clear hks hl0 hcb0 hle HPP h20
  go_enter Tryz.func45, Tryz.ntmps45
  go_upto_region 1 with fail
  rw [← HW.out]
  clear HW
  refine wp_region_rk (tn2b z x s1 n1 c1 s2 n2 c2 s3 n3 c3 l cb w.heap.size (w1.heap.size)) [4, 5, 6, 7, 8, 9, 10, 11, 12, 13, 14, 15, 16, 17, 18] (w1.heap.size) (fun a0 => a0.tmps.size = 19 ∧ aT a0 3 = .pointer (some ⟨(w.heap.size + 1), 0, none⟩) ∧ aT a0 2 = .pointer (some ⟨w.heap.size, 0, none⟩)) (by kernel_rfl) rfl (by kernel_rfl) rfl ⟨rfl, rfl, rfl⟩ (tn2b_stb z x s1 n1 c1 s2 n2 c2 s3 n3 c3 l cb w.heap.size (w1.heap.size)) ?_ ?_ ?_
  · intro k hk hk2
    match k, hk, hk2 with
    | 15, _, _ => exact HB1.out.1
    | 16, _, _ => exact HB1.out.2
    | 0, hk, _ => exact absurd hk (by show ¬ (15 ≤ 0); omega)
    | 1, hk, _ => exact absurd hk (by show ¬ (15 ≤ 1); omega)
    | 2, hk, _ => exact absurd hk (by show ¬ (15 ≤ 2); omega)
    | 3, hk, _ => exact absurd hk (by show ¬ (15 ≤ 3); omega)
    | 4, hk, _ => exact absurd hk (by show ¬ (15 ≤ 4); omega)
    | 5, hk, _ => exact absurd hk (by show ¬ (15 ≤ 5); omega)
    | 6, hk, _ => exact absurd hk (by show ¬ (15 ≤ 6); omega)
    | 7, hk, _ => exact absurd hk (by show ¬ (15 ≤ 7); omega)
    | 8, hk, _ => exact absurd hk (by show ¬ (15 ≤ 8); omega)
    | 9, hk, _ => exact absurd hk (by show ¬ (15 ≤ 9); omega)
    | 10, hk, _ => exact absurd hk (by show ¬ (15 ≤ 10); omega)
    | 11, hk, _ => exact absurd hk (by show ¬ (15 ≤ 11); omega)
    | 12, hk, _ => exact absurd hk (by show ¬ (15 ≤ 12); omega)
    | 13, hk, _ => exact absurd hk (by show ¬ (15 ≤ 13); omega)
    | 14, hk, _ => exact absurd hk (by show ¬ (15 ≤ 14); omega)
    | k + 17, _, hk2 => exact absurd hk2 (by show ¬ (k + 17 < 17); omega)
  · rintro a0 ⟨hz, g3, g2⟩
    refine StepsRK.cons ?_ (StepsRK.cons ?_ (StepsRK.cons ?_ (StepsRK.cons ?_ (StepsRK.cons ?_ (StepsRK.cons ?_ (StepsRK.cons ?_ (StepsRK.cons ?_ (StepsRK.cons ?_ (StepsRK.cons ?_ (StepsRK.cons ?_ (StepsRK.cons ?_ (StepsRK.cons ?_ (StepsRK.cons ?_ (StepsRK.cons ?_ (StepsRK.nil)))))))))))))))
    · intro lQ b W hI hUN hED KQ hKQ
      refine rk_plain rfl ?_
      exact opw_field 97 2 1 rfl _ ((hI.fr.same 2 (by decide)).trans g2) _ (by kernel_rfl) (hKQ.out _ _ (hI.put 0 5 rfl rfl (by rw [hz]; decide) rfl hUN rfl HBB (tn2b_stb z x s1 n1 c1 s2 n2 c2 s3 n3 c3 l cb w.heap.size (w1.heap.size)) (Below.refl _ _) rfl))
    · intro lQ b W hI hUN hED KQ hKQ
      refine rk_plain rfl ?_
      have f : aT b 5 = .pointer (some ⟨w.heap.size, 3, none⟩) := hI.got 0 (of_decide_eq_true rfl) (edge hED 0 (by kernel_rfl)) rfl
      have hg := (hI.vot 15 (of_decide_eq_true rfl) (of_decide_eq_true rfl) rfl)
      have q0 : W.cell? ⟨w.heap.size, 3, none⟩ = some (.int .i64 z.lv) := (cell_of_row _ _ 3 _ _ (0, 0) hg).trans rfl
      exact opw_load1 2 5 rfl _ f (.int .i64 z.lv) (by simp [Instr.loadAt, go_sem, q0]) (hKQ.out _ _ (hI.put 1 6 rfl rfl (by rw [hz]; decide) rfl hUN rfl HBB (tn2b_stb z x s1 n1 c1 s2 n2 c2 s3 n3 c3 l cb w.heap.size (w1.heap.size)) (Below.refl _ _) rfl))
    · intro lQ b W hI hUN hED KQ hKQ
      refine rk_plain rfl ?_
      exact opw_field 99 3 0 rfl _ ((hI.fr.same 3 (by decide)).trans g3) _ (by kernel_rfl) (hKQ.out _ _ (hI.put 2 7 rfl rfl (by rw [hz]; decide) rfl hUN rfl HBB (tn2b_stb z x s1 n1 c1 s2 n2 c2 s3 n3 c3 l cb w.heap.size (w1.heap.size)) (Below.refl _ _) rfl))
    · intro lQ b W hI hUN hED KQ hKQ
      refine rk_plain rfl ?_
      have f : aT b 7 = .pointer (some ⟨(w.heap.size + 1), 0, none⟩) := hI.got 2 (of_decide_eq_true rfl) (edge hED 2 (by kernel_rfl)) rfl
      exact opw_field 93 7 0 rfl _ f _ (by kernel_rfl) (hKQ.out _ _ (hI.put 3 8 rfl rfl (by rw [hz]; decide) rfl hUN rfl HBB (tn2b_stb z x s1 n1 c1 s2 n2 c2 s3 n3 c3 l cb w.heap.size (w1.heap.size)) (Below.refl _ _) rfl))
    · intro lQ b W hI hUN hED KQ hKQ
      refine rk_plain rfl ?_
      have f : aT b 8 = .pointer (some ⟨(w.heap.size + 1), 0, none⟩) := hI.got 3 (of_decide_eq_true rfl) (edge hED 3 (by kernel_rfl)) rfl
      have hg := (hI.vot 16 (of_decide_eq_true rfl) (of_decide_eq_true rfl) rfl)
      have q0 : W.cell? ⟨(w.heap.size + 1), 0, none⟩ = some (.int .i64 x.v) := (cell_of_row _ _ 0 _ _ (0, 0) hg).trans rfl
      exact opw_load1 2 8 rfl _ f (.int .i64 x.v) (by simp [Instr.loadAt, go_sem, q0]) (hKQ.out _ _ (hI.put 4 9 rfl rfl (by rw [hz]; decide) rfl hUN rfl HBB (tn2b_stb z x s1 n1 c1 s2 n2 c2 s3 n3 c3 l cb w.heap.size (w1.heap.size)) (Below.refl _ _) rfl))
    · intro lQ b W hI hUN hED KQ hKQ
      refine rk_plain rfl ?_
      have fa : aT b 6 = .int .i64 (z.lv) := hI.got 1 (of_decide_eq_true rfl) (edge hED 1 (by kernel_rfl)) rfl
      have fb : aT b 9 = .int .i64 (x.v) := hI.got 4 (of_decide_eq_true rfl) (edge hED 4 (by kernel_rfl)) rfl
      exact opw_eql 2 _ 6 9 rfl .i64 _ _ fa fb true HVN.out (hKQ.out _ _ (hI.put 5 10 rfl rfl (by rw [hz]; decide) rfl hUN rfl HBB (tn2b_stb z x s1 n1 c1 s2 n2 c2 s3 n3 c3 l cb w.heap.size (w1.heap.size)) (Below.refl _ _) rfl))
    · intro lQ b W hI hUN hED KQ hKQ
      refine rk_plain rfl ?_
      have f := hI.got 5 (of_decide_eq_true rfl) (edge hED 5 (by kernel_rfl)) rfl
      exact opw_move 10 rfl (hKQ.out _ _ (hI.put 6 11 rfl rfl (by rw [hz]; decide) rfl hUN rfl HBB (tn2b_stb z x s1 n1 c1 s2 n2 c2 s3 n3 c3 l cb w.heap.size (w1.heap.size)) (Below.refl _ _) f))
    · intro lQ b W hI hUN hED KQ hKQ
      refine rk_take 6 true 11 rfl rfl (hI.got 6 (of_decide_eq_true rfl) (edge hED 6 (by kernel_rfl)) rfl) ?_
      exact opw_field 97 2 2 rfl _ ((hI.fr.same 2 (by decide)).trans g2) _ (by kernel_rfl) (hKQ.out _ _ (hI.put 7 12 rfl rfl (by rw [hz]; decide) rfl hUN rfl HBB (tn2b_stb z x s1 n1 c1 s2 n2 c2 s3 n3 c3 l cb w.heap.size (w1.heap.size)) (Below.refl _ _) rfl))
    · intro lQ b W hI hUN hED KQ hKQ
      refine rk_take 6 true 11 rfl rfl (hI.got 6 (of_decide_eq_true rfl) (edge hED 6 (by kernel_rfl)) rfl) ?_
      have f : aT b 12 = .pointer (some ⟨w.heap.size, 4, none⟩) := hI.got 7 (of_decide_eq_true rfl) (edge hED 7 (by kernel_rfl)) rfl
      have hg := (hI.vot 15 (of_decide_eq_true rfl) (of_decide_eq_true rfl) rfl)
      have q0 : W.cell? ⟨w.heap.size, 4, none⟩ = some (.int .u64 z.lh) := (cell_of_row _ _ 4 _ _ (0, 0) hg).trans rfl
      exact opw_load1 26 12 rfl _ f (.int .u64 z.lh) (by simp [Instr.loadAt, go_sem, q0]) (hKQ.out _ _ (hI.put 8 13 rfl rfl (by rw [hz]; decide) rfl hUN rfl HBB (tn2b_stb z x s1 n1 c1 s2 n2 c2 s3 n3 c3 l cb w.heap.size (w1.heap.size)) (Below.refl _ _) rfl))
    · intro lQ b W hI hUN hED KQ hKQ
      refine rk_take 6 true 11 rfl rfl (hI.got 6 (of_decide_eq_true rfl) (edge hED 6 (by kernel_rfl)) rfl) ?_
      have hg := (hI.vot 16 (of_decide_eq_true rfl) (of_decide_eq_true rfl) rfl)
      refine wp_load_row 99 _ rfl ((w.heap.size + 1)) ((hI.fr.same 3 (by decide)).trans g3) 99 #[.int .i64 x.v, .int .i64 x.e, .slice s2 n2 c2, .slice s3 n3 c3] (0, 0) _ hg Tryz.underlying99 rfl (by kernel_rfl) ?_
      exact hKQ.out _ _ (hI.put 9 14 rfl rfl (by rw [hz]; decide) rfl hUN rfl HBB (tn2b_stb z x s1 n1 c1 s2 n2 c2 s3 n3 c3 l cb w.heap.size (w1.heap.size)) (Below.refl _ _) rfl)
    · intro lQ b W hI hUN hED KQ hKQ
      refine rk_take 6 true 11 rfl rfl (hI.got 6 (of_decide_eq_true rfl) (edge hED 6 (by kernel_rfl)) rfl) ?_
      have f0 : aT b 14 = .agg #[.int .i64 x.v, .int .i64 x.e, .slice s2 n2 c2, .slice s3 n3 c3] := hI.got 9 (of_decide_eq_true rfl) (edge hED 9 (by kernel_rfl)) rfl
      refine opw_call 83 #[.tmp 14] _ _ _ rfl Tryz.func83 (by kernel_rfl) rfl #[.agg #[.int .i64 x.v, .int .i64 x.e, .slice s2 n2 c2, .slice s3 n3 c3]] (by simp [ev, f0]) ?_
      refine (HLB.out W (HTE.out W hI.bel)).mono ?_
      rintro r W2 ⟨a4, c5, rfl, ho, hb⟩
      exact ⟨_, rfl, hKQ.out _ _ (hI.put 10 15 rfl rfl (by rw [hz]; decide) rfl hUN rfl HBB (tn2b_stb z x s1 n1 c1 s2 n2 c2 s3 n3 c3 l cb w.heap.size (w1.heap.size)) hb ⟨a4, c5, rfl, ho.mono hI.bel.size⟩)⟩
    · intro lQ b W hI hUN hED KQ hKQ
      refine rk_take 6 true 11 rfl rfl (hI.got 6 (of_decide_eq_true rfl) (edge hED 6 (by kernel_rfl)) rfl) ?_
      obtain ⟨a4, c5, f0, o0⟩ := hI.got 10 (of_decide_eq_true rfl) (edge hED 10 (by kernel_rfl)) rfl
      replace f0 : aT b 15 = .slice a4 l.length c5 := f0
      refine opw_call 82 #[.tmp 15] _ _ _ rfl Tryz.func82 (by kernel_rfl) rfl #[.slice a4 l.length c5] (by simp [ev, f0]) ?_
      refine (implHash_any a4 l.length c5 l W o0.toRow (Nat.le_trans HLL.out (by decide))).mono ?_
      rintro r W2 ⟨rfl, hb⟩
      exact ⟨_, rfl, hKQ.out _ _ (hI.put 11 16 rfl rfl (by rw [hz]; decide) rfl hUN rfl HBB (tn2b_stb z x s1 n1 c1 s2 n2 c2 s3 n3 c3 l cb w.heap.size (w1.heap.size)) hb rfl)⟩
    · intro lQ b W hI hUN hED KQ hKQ
      refine rk_take 6 true 11 rfl rfl (hI.got 6 (of_decide_eq_true rfl) (edge hED 6 (by kernel_rfl)) rfl) ?_
      have fa : aT b 13 = .int .u64 (z.lh) := hI.got 8 (of_decide_eq_true rfl) (edge hED 8 (by kernel_rfl)) rfl
      have fb : aT b 16 = .int .u64 (hashL l) := hI.got 11 (of_decide_eq_true rfl) (edge hED 11 (by kernel_rfl)) rfl
      exact opw_eql 26 _ 13 16 rfl .u64 _ _ fa fb cb HCB.out (hKQ.out _ _ (hI.put 12 17 rfl rfl (by rw [hz]; decide) rfl hUN rfl HBB (tn2b_stb z x s1 n1 c1 s2 n2 c2 s3 n3 c3 l cb w.heap.size (w1.heap.size)) (Below.refl _ _) rfl))
    · intro lQ b W hI hUN hED KQ hKQ
      refine rk_plain rfl ?_
      have fc : aT b 11 = .bool true := hI.got 6 (of_decide_eq_true rfl) (edge hED 6 (by kernel_rfl)) rfl
      have f := hI.got 12 (of_decide_eq_true rfl) (edge hED 12 (by kernel_rfl)) rfl
      replace f : aT b 17 = .bool cb := f
      exact opw_pick_t 11 _ _ rfl fc _ f (hKQ.out _ _ (hI.put 13 18 rfl rfl (by rw [hz]; decide) rfl hUN rfl HBB (tn2b_stb z x s1 n1 c1 s2 n2 c2 s3 n3 c3 l cb w.heap.size (w1.heap.size)) (Below.refl _ _) rfl))
    · intro lQ b W hI hUN hED KQ hKQ
      refine rk_plain rfl ?_
      have f := hI.got 13 (of_decide_eq_true rfl) (edge hED 13 (by kernel_rfl)) rfl
      exact opw_assign 18 rfl (hKQ.out _ _ (hI.put 14 4 rfl rfl (by rw [hz]; decide) rfl hUN rfl HBB (tn2b_stb z x s1 n1 c1 s2 n2 c2 s3 n3 c3 l cb w.heap.size (w1.heap.size)) (Below.refl _ _) f))
  · intro b W hf hb F
    have e4 : aT b 4 = .bool cb := F 14 (of_decide_eq_true rfl) rfl
    rw [hf.eq]
    simp only [puts, Act.put, List.setIfInBounds_toArray, List.set_cons_zero, List.set_cons_succ, e4]
    clear hf F e4
    generalize aT b = AT
    clear b
    have m3 : Below w.heap.size w W := keepT hbb hb
    go_wp2
    go_ret
    exact ⟨cb, rfl, HQ, m3⟩

end Go.Proofs.YtglpbgebcpijaaaGreat

set_option linter.unusedVariables false
namespace Go.Proofs.YtglpbgebcpijaaaGreat
open Go.RowKit Go.Sort

theorem info_rootPaper : (Tryz.prog.info? 95).map (·.size) = some 4 := by kernel_rfl
theorem results_rootPaper {fn : Func} {t : Tmp} (h : fn.results = #[.cell t 95]) (tmps : Array Value) (g : Nat) (ht : tmps.getD t undef = .pointer (some ⟨g, 0, none⟩)) (w : World) (cs : Array Value) (hs : cs.size = 4)
    (hb : w.heap[g]? = some (.cells cs 95 (0, 0))) : (results fn tmps).run Tryz.prog w = .ok (.agg cs) w := by
  have ht' : tmps[t]?.getD undef = .pointer (some ⟨g, 0, none⟩) := by rw [← ht]; simp
  have hi : (Tryz.prog.info? 95).map (·.size) = some cs.size := by rw [hs]; exact info_rootPaper
  simp [results, h, asAddr, ht', run_loadVar_row w g _ _ cs (0, 0) _ hb Tryz.underlying95 rfl hi]
theorem info_stampPaper : (Tryz.prog.info? 97).map (·.size) = some 5 := by kernel_rfl
theorem results_stampPaper {fn : Func} {t : Tmp} (h : fn.results = #[.cell t 97]) (tmps : Array Value) (g : Nat) (ht : tmps.getD t undef = .pointer (some ⟨g, 0, none⟩)) (w : World) (cs : Array Value) (hs : cs.size = 5)
    (hb : w.heap[g]? = some (.cells cs 97 (0, 0))) : (results fn tmps).run Tryz.prog w = .ok (.agg cs) w := by
  have ht' : tmps[t]?.getD undef = .pointer (some ⟨g, 0, none⟩) := by rw [← ht]; simp
  have hi : (Tryz.prog.info? 97).map (·.size) = some cs.size := by rw [hs]; exact info_stampPaper
  simp [results, h, asAddr, ht', run_loadVar_row w g _ _ cs (0, 0) _ hb Tryz.underlying97 rfl hi]
theorem info_listPaper : (Tryz.prog.info? 99).map (·.size) = some 4 := by kernel_rfl
theorem results_listPaper {fn : Func} {t : Tmp} (h : fn.results = #[.cell t 99]) (tmps : Array Value) (g : Nat) (ht : tmps.getD t undef = .pointer (some ⟨g, 0, none⟩)) (w : World) (cs : Array Value) (hs : cs.size = 4)
    (hb : w.heap[g]? = some (.cells cs 99 (0, 0))) : (results fn tmps).run Tryz.prog w = .ok (.agg cs) w := by
  have ht' : tmps[t]?.getD undef = .pointer (some ⟨g, 0, none⟩) := by rw [← ht]; simp
  have hi : (Tryz.prog.info? 99).map (·.size) = some cs.size := by rw [hs]; exact info_listPaper
  simp [results, h, asAddr, ht', run_loadVar_row w g _ _ cs (0, 0) _ hb Tryz.underlying99 rfl hi]

set_option maxRecDepth 10000 in
set_option maxHeartbeats 2000000 in
theorem rootPaper_any (v e : Int) (a0 : Option Addr) (n0 c0 : Nat) (a1 : Option Addr) (n1 c1 : Nat) (w : World) : Calls Tryz.prog 66 #[.agg #[.int .i64 v, .int .i64 e, .slice a0 n0 c0, .slice a1 n1 c1]] w fun r w' => r = .returned (.agg #[.int .i64 v, .int .i64 e, .slice a1 n1 c1, .slice a0 n0 c0]) ∧ Below w.heap.size w w' := by
  have hn := two_blocks w (.cells #[.int .i64 v, .int .i64 e, .slice a0 n0 c0, .slice a1 n1 c1] 41) (.cells #[.int .i64 v, .int .i64 e, .slice a1 n1 c1, .slice a0 n0 c0] 95)
  have hb := two_below w (.cells #[.int .i64 v, .int .i64 e, .slice a0 n0 c0, .slice a1 n1 c1] 41) (.cells #[.int .i64 v, .int .i64 e, .slice a1 n1 c1, .slice a0 n0 c0] 95)
  have HN : Hid (_ ∧ _) := hn
  have HB : Hid (Below _ _ _) := hb
  clear hn hb
  go_enter Tryz.func66, Tryz.ntmps66
  go_wp2_with fail
  try simp only [Exit.inBlock, Exit.then]
  exact bodyPost_ret (results_rootPaper rfl _ (w.heap.size + 1) rfl _ _ rfl HN.out.2) rfl ⟨rfl, HB.out⟩

set_option maxRecDepth 10000 in
set_option maxHeartbeats 2000000 in
theorem listPaper_any (v e : Int) (a0 : Option Addr) (n0 c0 : Nat) (a1 : Option Addr) (n1 c1 : Nat) (w : World) : Calls Tryz.prog 68 #[.agg #[.int .i64 v, .int .i64 e, .slice a0 n0 c0, .slice a1 n1 c1]] w fun r w' => r = .returned (.agg #[.int .i64 v, .int .i64 e, .slice a1 n1 c1, .slice a0 n0 c0]) ∧ Below w.heap.size w w' := by
  have hn := two_blocks w (.cells #[.int .i64 v, .int .i64 e, .slice a0 n0 c0, .slice a1 n1 c1] 46) (.cells #[.int .i64 v, .int .i64 e, .slice a1 n1 c1, .slice a0 n0 c0] 99)
  have hb := two_below w (.cells #[.int .i64 v, .int .i64 e, .slice a0 n0 c0, .slice a1 n1 c1] 46) (.cells #[.int .i64 v, .int .i64 e, .slice a1 n1 c1, .slice a0 n0 c0] 99)
  have HN : Hid (_ ∧ _) := hn
  have HB : Hid (Below _ _ _) := hb
  clear hn hb
  go_enter Tryz.func68, Tryz.ntmps68
  go_wp2_with fail
  try simp only [Exit.inBlock, Exit.then]
  exact bodyPost_ret (results_listPaper rfl _ (w.heap.size + 1) rfl _ _ rfl HN.out.2) rfl ⟨rfl, HB.out⟩

set_option maxRecDepth 10000 in
set_option maxHeartbeats 2000000 in
theorem stampPaper_any (v e lv lh : Int) (a1 : Option Addr) (n1 c1 : Nat) (w : World) : Calls Tryz.prog 67 #[.agg #[.int .i64 v, .int .i64 e, .int .i64 lv, .int .u64 lh, .slice a1 n1 c1]] w fun r w' => r = .returned (.agg #[.int .i64 v, .int .i64 e, .slice a1 n1 c1, .int .i64 lv, .int .u64 lh]) ∧ Below w.heap.size w w' := by
  have hn := two_blocks w (.cells #[.int .i64 v, .int .i64 e, .int .i64 lv, .int .u64 lh, .slice a1 n1 c1] 43) (.cells #[.int .i64 v, .int .i64 e, .slice a1 n1 c1, .int .i64 lv, .int .u64 lh] 97)
  have hb := two_below w (.cells #[.int .i64 v, .int .i64 e, .int .i64 lv, .int .u64 lh, .slice a1 n1 c1] 43) (.cells #[.int .i64 v, .int .i64 e, .slice a1 n1 c1, .int .i64 lv, .int .u64 lh] 97)
  have HN : Hid (_ ∧ _) := hn
  have HB : Hid (Below _ _ _) := hb
  clear hn hb
  go_enter Tryz.func67, Tryz.ntmps67
  go_wp2_with fail
  try simp only [Exit.inBlock, Exit.then]
  exact bodyPost_ret (results_stampPaper rfl _ (w.heap.size + 1) rfl _ _ rfl HN.out.2) rfl ⟨rfl, HB.out⟩

end Go.Proofs.YtglpbgebcpijaaaGreat

set_option linter.unusedVariables false
namespace Go.Proofs.YtglpbgebcpijaaaGreat
open Go.RowKit Go.Sort

theorem info_client : (Tryz.prog.info? 101).map (·.size) = some 13 := by kernel_rfl
theorem results_client {fn : Func} {t : Tmp} (h : fn.results = #[.cell t 101]) (tmps : Array Value) (g : Nat) (ht : tmps.getD t undef = .pointer (some ⟨g, 0, none⟩)) (w : World) (cs : Array Value) (hs : cs.size = 13)
    (hb : w.heap[g]? = some (.cells cs 101 (0, 0))) : (results fn tmps).run Tryz.prog w = .ok (.agg cs) w := by
  have ht' : tmps[t]?.getD undef = .pointer (some ⟨g, 0, none⟩) := by rw [← ht]; simp
  have hi : (Tryz.prog.info? 101).map (·.size) = some cs.size := by rw [hs]; exact info_client
  simp [results, h, asAddr, ht', run_loadVar_row w g _ _ cs (0, 0) _ hb Tryz.underlying101 rfl hi]
/-- What is known of a region (RJ). -/
def tc1 (x : TsP) (s0 : Option Addr) (n0 c0 : Nat) (s1 : Option Addr) (n1 c1 : Nat) (s2 : Option Addr) (n2 c2 : Nat) (s3 : Option Addr) (n3 c3 : Nat) (s4 : Option Addr) (n4 c4 : Nat) (G B : Nat) : RSpec where
  m := 11
  n := 13
  slots := [3, 4, 5, 6, 7, 8, 9, 10, 11, 12, 100010, 100011, 100012]
  kills := [[], [], [], [], [], [], [], [], [], [], [], [], [10]]
  pres := [[], [], [], [], [], [], [], [], [], [], [], [], []]
  fact := fun k v w => match k with
    | 0 => v = .pointer (some ⟨G, 0, none⟩)
    | 1 => v = .agg #[.int .i64 x.r.v, .int .i64 x.r.e, .slice s0 n0 c0, .slice s1 n1 c1]
    | 2 => v = .agg #[.int .i64 x.r.v, .int .i64 x.r.e, .slice s1 n1 c1, .slice s0 n0 c0]
    | 3 => v = .pointer (some ⟨G, 4, none⟩)
    | 4 => v = .agg #[.int .i64 x.s.v, .int .i64 x.s.e, .int .i64 x.s.lv, .int .u64 x.s.lh, .slice s2 n2 c2]
    | 5 => v = .agg #[.int .i64 x.s.v, .int .i64 x.s.e, .slice s2 n2 c2, .int .i64 x.s.lv, .int .u64 x.s.lh]
    | 6 => v = .pointer (some ⟨G, 9, none⟩)
    | 7 => v = .agg #[.int .i64 x.l.v, .int .i64 x.l.e, .slice s3 n3 c3, .slice s4 n4 c4]
    | 8 => v = .agg #[.int .i64 x.l.v, .int .i64 x.l.e, .slice s4 n4 c4, .slice s3 n3 c3]
    | 9 => v = .agg #[.int .i64 x.r.v, .int .i64 x.r.e, .slice s1 n1 c1, .slice s0 n0 c0, .int .i64 x.s.v, .int .i64 x.s.e, .slice s2 n2 c2, .int .i64 x.s.lv, .int .u64 x.s.lh, .int .i64 x.l.v, .int .i64 x.l.e, .slice s4 n4 c4, .slice s3 n3 c3]
    | 10 => w.heap[(G + 1)]? = some (.cells #[.int .i64 x.r.v, .int .i64 x.r.e, .slice s1 n1 c1, .slice s0 n0 c0, .int .i64 x.s.v, .int .i64 x.s.e, .slice s2 n2 c2, .int .i64 x.s.lv, .int .u64 x.s.lh, .int .i64 x.l.v, .int .i64 x.l.e, .slice s4 n4 c4, .slice s3 n3 c3] 101 (0, 0))
    | 11 => w.heap[G]? = some (.cells #[.int .i64 x.r.v, .int .i64 x.r.e, .slice s0 n0 c0, .slice s1 n1 c1, .int .i64 x.s.v, .int .i64 x.s.e, .int .i64 x.s.lv, .int .u64 x.s.lh, .slice s2 n2 c2, .int .i64 x.l.v, .int .i64 x.l.e, .slice s3 n3 c3, .slice s4 n4 c4] 60 (0, 0))
    | _ => w.heap[(G + 1)]? = some (.cells #[.int .i64 0, .int .i64 0, .slice none 0 0, .slice none 0 0, .int .i64 0, .int .i64 0, .slice none 0 0, .int .i64 0, .int .u64 0, .int .i64 0, .int .i64 0, .slice none 0 0, .slice none 0 0] 101 (0, 0))
set_option linter.unusedVariables false in
theorem tc1_stb (x : TsP) (s0 : Option Addr) (n0 c0 : Nat) (s1 : Option Addr) (n1 c1 : Nat) (s2 : Option Addr) (n2 c2 : Nat) (s3 : Option Addr) (n3 c3 : Nat) (s4 : Option Addr) (n4 c4 : Nat) (G B : Nat) (k : Nat) (hk : k < 13) : StB ((tc1 x s0 n0 c0 s1 n1 c1 s2 n2 c2 s3 n3 c3 s4 n4 c4 G (B)).fact k) := by
  match k, hk with
  | 0, _ => exact fun _ _ _ h _ => h
  | 1, _ => exact fun _ _ _ h _ => h
  | 2, _ => exact fun _ _ _ h _ => h
  | 3, _ => exact fun _ _ _ h _ => h
  | 4, _ => exact fun _ _ _ h _ => h
  | 5, _ => exact fun _ _ _ h _ => h
  | 6, _ => exact fun _ _ _ h _ => h
  | 7, _ => exact fun _ _ _ h _ => h
  | 8, _ => exact fun _ _ _ h _ => h
  | 9, _ => exact fun _ _ _ h _ => h
  | 10, _ => exact fun _ _ _ q_0 hb => below_kept q_0 hb
  | 11, _ => exact fun _ _ _ q_0 hb => below_kept q_0 hb
  | 12, _ => exact fun _ _ _ q_0 hb => below_kept q_0 hb
  | k + 13, hk => omega
set_option linter.unusedVariables false in
theorem tc1_st10 (x : TsP) (s0 : Option Addr) (n0 c0 : Nat) (s1 : Option Addr) (n1 c1 : Nat) (s2 : Option Addr) (n2 c2 : Nat) (s3 : Option Addr) (n3 c3 : Nat) (s4 : Option Addr) (n4 c4 : Nat) (G B : Nat) {W W2 : World} {cs : Array Value} {fr : Nat × Nat} (hg : W.heap[(G + 1)]? = some (.cells cs 101 fr)) (ht : Touch ((G + 1)) ((G + 1) + 1) W W2) (k : Nat) (hk : k < 13) (hne : k ≠ 10) (hkill : 10 ∉ (tc1 x s0 n0 c0 s1 n1 c1 s2 n2 c2 s3 n3 c3 s4 n4 c4 G (B)).kill k) (v : Value) (hfact : (tc1 x s0 n0 c0 s1 n1 c1 s2 n2 c2 s3 n3 c3 s4 n4 c4 G (B)).fact k v W) : (tc1 x s0 n0 c0 s1 n1 c1 s2 n2 c2 s3 n3 c3 s4 n4 c4 G (B)).fact k v W2 := by
  match k, hk, hne, hkill, hfact with
  | 0, _, _, _, hq => exact hq
  | 1, _, _, _, hq => exact hq
  | 2, _, _, _, hq => exact hq
  | 3, _, _, _, hq => exact hq
  | 4, _, _, _, hq => exact hq
  | 5, _, _, _, hq => exact hq
  | 6, _, _, _, hq => exact hq
  | 7, _, _, _, hq => exact hq
  | 8, _, _, _, hq => exact hq
  | 9, _, _, _, hq => exact hq
  | 10, _, hne, _, _ => exact absurd rfl hne
  | 11, _, _, _, q_0 => exact box_box q_0 hg (by decide) ht
  | 12, _, _, hkill, _ => exact absurd (List.Mem.head _) hkill
  | k + 13, hk, _, _, _ => omega

set_option maxRecDepth 10000 in
set_option maxHeartbeats 4000000 in
theorem client_any (x : TsP) (s0 : Option Addr) (n0 c0 : Nat) (s1 : Option Addr) (n1 c1 : Nat) (s2 : Option Addr) (n2 c2 : Nat) (s3 : Option Addr) (n3 c3 : Nat) (s4 : Option Addr) (n4 c4 : Nat) (w : World) :
    Calls Tryz.prog 40 #[.agg #[.int .i64 x.r.v, .int .i64 x.r.e, .slice s0 n0 c0, .slice s1 n1 c1, .int .i64 x.s.v, .int .i64 x.s.e, .int .i64 x.s.lv, .int .u64 x.s.lh, .slice s2 n2 c2, .int .i64 x.l.v, .int .i64 x.l.e, .slice s3 n3 c3, .slice s4 n4 c4]] w fun r w' => r = .returned (.agg #[.int .i64 x.r.v, .int .i64 x.r.e, .slice s1 n1 c1, .slice s0 n0 c0, .int .i64 x.s.v, .int .i64 x.s.e, .slice s2 n2 c2, .int .i64 x.s.lv, .int .u64 x.s.lh, .int .i64 x.l.v, .int .i64 x.l.e, .slice s4 n4 c4, .slice s3 n3 c3]) ∧ Below w.heap.size w w' := by
  obtain ⟨w1, hw1⟩ : ∃ w1, w1 = (w.alloc (.cells #[.int .i64 x.r.v, .int .i64 x.r.e, .slice s0 n0 c0, .slice s1 n1 c1, .int .i64 x.s.v, .int .i64 x.s.e, .int .i64 x.s.lv, .int .u64 x.s.lh, .slice s2 n2 c2, .int .i64 x.l.v, .int .i64 x.l.e, .slice s3 n3 c3, .slice s4 n4 c4] 60)).alloc (.cells #[.int .i64 0, .int .i64 0, .slice none 0 0, .slice none 0 0, .int .i64 0, .int .i64 0, .slice none 0 0, .int .i64 0, .int .u64 0, .int .i64 0, .int .i64 0, .slice none 0 0, .slice none 0 0] 101) := ⟨_, rfl⟩
  have hbb : Below w.heap.size w w1 := by rw [hw1]; exact ((Below.refl _ _).alloc (Nat.le_refl _) _).alloc (by simp) _
  have HB1 : Hid (_ ∧ _) := two_blocks w (.cells #[.int .i64 x.r.v, .int .i64 x.r.e, .slice s0 n0 c0, .slice s1 n1 c1, .int .i64 x.s.v, .int .i64 x.s.e, .int .i64 x.s.lv, .int .u64 x.s.lh, .slice s2 n2 c2, .int .i64 x.l.v, .int .i64 x.l.e, .slice s3 n3 c3, .slice s4 n4 c4] 60) (.cells #[.int .i64 0, .int .i64 0, .slice none 0 0, .slice none 0 0, .int .i64 0, .int .i64 0, .slice none 0 0, .int .i64 0, .int .u64 0, .int .i64 0, .int .i64 0, .slice none 0 0, .slice none 0 0] 101)
  rw [← hw1] at HB1
  have HBB : w.heap.size ≤ w1.heap.size := hbb.size
  have HW : Hid (_ = _) := hw1
  clear hw1
  go_enter Tryz.func40, Tryz.ntmps40
  go_upto_region 1 with fail
  rw [← HW.out]
  clear HW
  refine wp_region_ri (tc1 x s0 n0 c0 s1 n1 c1 s2 n2 c2 s3 n3 c3 s4 n4 c4 w.heap.size (w.heap.size)) [3, 4, 5, 6, 7, 8, 9, 10, 11, 12] (w.heap.size) (fun a0 => a0.tmps.size = 13 ∧ aT a0 1 = .pointer (some ⟨w.heap.size, 0, none⟩) ∧ aT a0 2 = .pointer (some ⟨(w.heap.size + 1), 0, none⟩)) (by kernel_rfl) rfl (by kernel_rfl) rfl ⟨rfl, rfl, rfl⟩ (tc1_stb x s0 n0 c0 s1 n1 c1 s2 n2 c2 s3 n3 c3 s4 n4 c4 w.heap.size (w.heap.size)) ?_ ?_ ?_
  · intro k hk hk2
    match k, hk, hk2 with
    | 11, _, _ => exact HB1.out.1
    | 12, _, _ => exact HB1.out.2
    | 0, hk, _ => exact absurd hk (by show ¬ (11 ≤ 0); omega)
    | 1, hk, _ => exact absurd hk (by show ¬ (11 ≤ 1); omega)
    | 2, hk, _ => exact absurd hk (by show ¬ (11 ≤ 2); omega)
    | 3, hk, _ => exact absurd hk (by show ¬ (11 ≤ 3); omega)
    | 4, hk, _ => exact absurd hk (by show ¬ (11 ≤ 4); omega)
    | 5, hk, _ => exact absurd hk (by show ¬ (11 ≤ 5); omega)
    | 6, hk, _ => exact absurd hk (by show ¬ (11 ≤ 6); omega)
    | 7, hk, _ => exact absurd hk (by show ¬ (11 ≤ 7); omega)
    | 8, hk, _ => exact absurd hk (by show ¬ (11 ≤ 8); omega)
    | 9, hk, _ => exact absurd hk (by show ¬ (11 ≤ 9); omega)
    | 10, hk, _ => exact absurd hk (by show ¬ (11 ≤ 10); omega)
    | k + 13, _, hk2 => exact absurd hk2 (by show ¬ (k + 13 < 13); omega)
  · rintro a0 ⟨hz, g1, g2⟩
    refine StepsRI.cons ?_ (StepsRI.cons ?_ (StepsRI.cons ?_ (StepsRI.cons ?_ (StepsRI.cons ?_ (StepsRI.cons ?_ (StepsRI.cons ?_ (StepsRI.cons ?_ (StepsRI.cons ?_ (StepsRI.cons ?_ (StepsRI.cons ?_ (StepsRI.nil)))))))))))
    · intro lQ b W hI hUN hED KQ hKQ
      exact opw_field 60 1 0 rfl _ ((hI.fr.same 1 (by decide)).trans g1) _ (by kernel_rfl) (hKQ.out _ _ (hI.put 0 3 rfl rfl (by rw [hz]; decide) rfl hUN rfl HBB (tc1_stb x s0 n0 c0 s1 n1 c1 s2 n2 c2 s3 n3 c3 s4 n4 c4 w.heap.size (w.heap.size)) (Below.refl _ _) rfl))
    · intro lQ b W hI hUN hED KQ hKQ
      have f : aT b 3 = .pointer (some ⟨w.heap.size, 0, none⟩) := hI.got 0 (of_decide_eq_true rfl) (edge hED 0 (by kernel_rfl)) rfl
      have hg := (hI.vot 11 (of_decide_eq_true rfl) (of_decide_eq_true rfl) rfl)
      have q0 : W.cell? ⟨w.heap.size, 0, none⟩ = some (.int .i64 x.r.v) := (cell_of_row _ _ 0 _ _ (0, 0) hg).trans rfl
      have q1 : W.cell? ⟨w.heap.size, 1, none⟩ = some (.int .i64 x.r.e) := (cell_of_row _ _ 1 _ _ (0, 0) hg).trans rfl
      have q2 : W.cell? ⟨w.heap.size, 2, none⟩ = some (.slice s0 n0 c0) := (cell_of_row _ _ 2 _ _ (0, 0) hg).trans rfl
      have q3 : W.cell? ⟨w.heap.size, 3, none⟩ = some (.slice s1 n1 c1) := (cell_of_row _ _ 3 _ _ (0, 0) hg).trans rfl
      exact opw_load1 41 3 rfl _ f (.agg #[.int .i64 x.r.v, .int .i64 x.r.e, .slice s0 n0 c0, .slice s1 n1 c1]) (by simp [Instr.loadAt, go_sem, q0, q1, q2, q3]) (hKQ.out _ _ (hI.put 1 4 rfl rfl (by rw [hz]; decide) rfl hUN rfl HBB (tc1_stb x s0 n0 c0 s1 n1 c1 s2 n2 c2 s3 n3 c3 s4 n4 c4 w.heap.size (w.heap.size)) (Below.refl _ _) rfl))
    · intro lQ b W hI hUN hED KQ hKQ
      have f0 := hI.got 1 (of_decide_eq_true rfl) (edge hED 1 (by kernel_rfl)) rfl
      replace f0 : aT b 4 = .agg #[.int .i64 x.r.v, .int .i64 x.r.e, .slice s0 n0 c0, .slice s1 n1 c1] := f0
      refine opw_call 66 #[.tmp 4] _ _ _ rfl Tryz.func66 (by kernel_rfl) rfl #[.agg #[.int .i64 x.r.v, .int .i64 x.r.e, .slice s0 n0 c0, .slice s1 n1 c1]] (by simp [ev, f0]) ?_
      refine (rootPaper_any x.r.v x.r.e s0 n0 c0 s1 n1 c1 W).mono ?_
      rintro e W2 ⟨rfl, hb⟩
      exact ⟨_, rfl, hKQ.out _ _ (hI.put 2 5 rfl rfl (by rw [hz]; decide) rfl hUN rfl HBB (tc1_stb x s0 n0 c0 s1 n1 c1 s2 n2 c2 s3 n3 c3 s4 n4 c4 w.heap.size (w.heap.size)) hb rfl)⟩
    · intro lQ b W hI hUN hED KQ hKQ
      exact opw_field 60 1 1 rfl _ ((hI.fr.same 1 (by decide)).trans g1) _ (by kernel_rfl) (hKQ.out _ _ (hI.put 3 6 rfl rfl (by rw [hz]; decide) rfl hUN rfl HBB (tc1_stb x s0 n0 c0 s1 n1 c1 s2 n2 c2 s3 n3 c3 s4 n4 c4 w.heap.size (w.heap.size)) (Below.refl _ _) rfl))
    · intro lQ b W hI hUN hED KQ hKQ
      have f : aT b 6 = .pointer (some ⟨w.heap.size, 4, none⟩) := hI.got 3 (of_decide_eq_true rfl) (edge hED 3 (by kernel_rfl)) rfl
      have hg := (hI.vot 11 (of_decide_eq_true rfl) (of_decide_eq_true rfl) rfl)
      have q0 : W.cell? ⟨w.heap.size, 4, none⟩ = some (.int .i64 x.s.v) := (cell_of_row _ _ 4 _ _ (0, 0) hg).trans rfl
      have q1 : W.cell? ⟨w.heap.size, 5, none⟩ = some (.int .i64 x.s.e) := (cell_of_row _ _ 5 _ _ (0, 0) hg).trans rfl
      have q2 : W.cell? ⟨w.heap.size, 6, none⟩ = some (.int .i64 x.s.lv) := (cell_of_row _ _ 6 _ _ (0, 0) hg).trans rfl
      have q3 : W.cell? ⟨w.heap.size, 7, none⟩ = some (.int .u64 x.s.lh) := (cell_of_row _ _ 7 _ _ (0, 0) hg).trans rfl
      have q4 : W.cell? ⟨w.heap.size, 8, none⟩ = some (.slice s2 n2 c2) := (cell_of_row _ _ 8 _ _ (0, 0) hg).trans rfl
      exact opw_load1 43 6 rfl _ f (.agg #[.int .i64 x.s.v, .int .i64 x.s.e, .int .i64 x.s.lv, .int .u64 x.s.lh, .slice s2 n2 c2]) (by simp [Instr.loadAt, go_sem, q0, q1, q2, q3, q4]) (hKQ.out _ _ (hI.put 4 7 rfl rfl (by rw [hz]; decide) rfl hUN rfl HBB (tc1_stb x s0 n0 c0 s1 n1 c1 s2 n2 c2 s3 n3 c3 s4 n4 c4 w.heap.size (w.heap.size)) (Below.refl _ _) rfl))
    · intro lQ b W hI hUN hED KQ hKQ
      have f0 := hI.got 4 (of_decide_eq_true rfl) (edge hED 4 (by kernel_rfl)) rfl
      replace f0 : aT b 7 = .agg #[.int .i64 x.s.v, .int .i64 x.s.e, .int .i64 x.s.lv, .int .u64 x.s.lh, .slice s2 n2 c2] := f0
      refine opw_call 67 #[.tmp 7] _ _ _ rfl Tryz.func67 (by kernel_rfl) rfl #[.agg #[.int .i64 x.s.v, .int .i64 x.s.e, .int .i64 x.s.lv, .int .u64 x.s.lh, .slice s2 n2 c2]] (by simp [ev, f0]) ?_
      refine (stampPaper_any x.s.v x.s.e x.s.lv x.s.lh s2 n2 c2 W).mono ?_
      rintro e W2 ⟨rfl, hb⟩
      exact ⟨_, rfl, hKQ.out _ _ (hI.put 5 8 rfl rfl (by rw [hz]; decide) rfl hUN rfl HBB (tc1_stb x s0 n0 c0 s1 n1 c1 s2 n2 c2 s3 n3 c3 s4 n4 c4 w.heap.size (w.heap.size)) hb rfl)⟩
    · intro lQ b W hI hUN hED KQ hKQ
      exact opw_field 60 1 2 rfl _ ((hI.fr.same 1 (by decide)).trans g1) _ (by kernel_rfl) (hKQ.out _ _ (hI.put 6 9 rfl rfl (by rw [hz]; decide) rfl hUN rfl HBB (tc1_stb x s0 n0 c0 s1 n1 c1 s2 n2 c2 s3 n3 c3 s4 n4 c4 w.heap.size (w.heap.size)) (Below.refl _ _) rfl))
    · intro lQ b W hI hUN hED KQ hKQ
      have f : aT b 9 = .pointer (some ⟨w.heap.size, 9, none⟩) := hI.got 6 (of_decide_eq_true rfl) (edge hED 6 (by kernel_rfl)) rfl
      have hg := (hI.vot 11 (of_decide_eq_true rfl) (of_decide_eq_true rfl) rfl)
      have q0 : W.cell? ⟨w.heap.size, 9, none⟩ = some (.int .i64 x.l.v) := (cell_of_row _ _ 9 _ _ (0, 0) hg).trans rfl
      have q1 : W.cell? ⟨w.heap.size, 10, none⟩ = some (.int .i64 x.l.e) := (cell_of_row _ _ 10 _ _ (0, 0) hg).trans rfl
      have q2 : W.cell? ⟨w.heap.size, 11, none⟩ = some (.slice s3 n3 c3) := (cell_of_row _ _ 11 _ _ (0, 0) hg).trans rfl
      have q3 : W.cell? ⟨w.heap.size, 12, none⟩ = some (.slice s4 n4 c4) := (cell_of_row _ _ 12 _ _ (0, 0) hg).trans rfl
      exact opw_load1 46 9 rfl _ f (.agg #[.int .i64 x.l.v, .int .i64 x.l.e, .slice s3 n3 c3, .slice s4 n4 c4]) (by simp [Instr.loadAt, go_sem, q0, q1, q2, q3]) (hKQ.out _ _ (hI.put 7 10 rfl rfl (by rw [hz]; decide) rfl hUN rfl HBB (tc1_stb x s0 n0 c0 s1 n1 c1 s2 n2 c2 s3 n3 c3 s4 n4 c4 w.heap.size (w.heap.size)) (Below.refl _ _) rfl))
    · intro lQ b W hI hUN hED KQ hKQ
      have f0 := hI.got 7 (of_decide_eq_true rfl) (edge hED 7 (by kernel_rfl)) rfl
      replace f0 : aT b 10 = .agg #[.int .i64 x.l.v, .int .i64 x.l.e, .slice s3 n3 c3, .slice s4 n4 c4] := f0
      refine opw_call 68 #[.tmp 10] _ _ _ rfl Tryz.func68 (by kernel_rfl) rfl #[.agg #[.int .i64 x.l.v, .int .i64 x.l.e, .slice s3 n3 c3, .slice s4 n4 c4]] (by simp [ev, f0]) ?_
      refine (listPaper_any x.l.v x.l.e s3 n3 c3 s4 n4 c4 W).mono ?_
      rintro e W2 ⟨rfl, hb⟩
      exact ⟨_, rfl, hKQ.out _ _ (hI.put 8 11 rfl rfl (by rw [hz]; decide) rfl hUN rfl HBB (tc1_stb x s0 n0 c0 s1 n1 c1 s2 n2 c2 s3 n3 c3 s4 n4 c4 w.heap.size (w.heap.size)) hb rfl)⟩
    · intro lQ b W hI hUN hED KQ hKQ
      have f0 : aT b 5 = .agg #[.int .i64 x.r.v, .int .i64 x.r.e, .slice s1 n1 c1, .slice s0 n0 c0] := hI.got 2 (of_decide_eq_true rfl) (edge hED 2 (by kernel_rfl)) rfl
      have f1 : aT b 8 = .agg #[.int .i64 x.s.v, .int .i64 x.s.e, .slice s2 n2 c2, .int .i64 x.s.lv, .int .u64 x.s.lh] := hI.got 5 (of_decide_eq_true rfl) (edge hED 5 (by kernel_rfl)) rfl
      have f2 : aT b 11 = .agg #[.int .i64 x.l.v, .int .i64 x.l.e, .slice s4 n4 c4, .slice s3 n3 c3] := hI.got 8 (of_decide_eq_true rfl) (edge hED 8 (by kernel_rfl)) rfl
      refine opw_build 101 _ rfl #[(0, .agg #[.int .i64 x.r.v, .int .i64 x.r.e, .slice s1 n1 c1, .slice s0 n0 c0]), (1, .agg #[.int .i64 x.s.v, .int .i64 x.s.e, .slice s2 n2 c2, .int .i64 x.s.lv, .int .u64 x.s.lh]), (2, .agg #[.int .i64 x.l.v, .int .i64 x.l.e, .slice s4 n4 c4, .slice s3 n3 c3])] (by simp [ev, f0, f1, f2]) (.agg #[.int .i64 x.r.v, .int .i64 x.r.e, .slice s1 n1 c1, .slice s0 n0 c0, .int .i64 x.s.v, .int .i64 x.s.e, .slice s2 n2 c2, .int .i64 x.s.lv, .int .u64 x.s.lh, .int .i64 x.l.v, .int .i64 x.l.e, .slice s4 n4 c4, .slice s3 n3 c3]) (by kernel_rfl) ?_
      exact hKQ.out _ _ (hI.put 9 12 rfl rfl (by rw [hz]; decide) rfl hUN rfl HBB (tc1_stb x s0 n0 c0 s1 n1 c1 s2 n2 c2 s3 n3 c3 s4 n4 c4 w.heap.size (w.heap.size)) (Below.refl _ _) rfl)
    · intro lQ b W hI hUN hED KQ hKQ
      have hgb := (hI.vot1 12 10 (of_decide_eq_true rfl) (of_decide_eq_true rfl) hUN rfl)
      have fb := ((hI.fr.same 2 (by decide)).trans g2)
      have f := hI.got 9 (of_decide_eq_true rfl) (edge hED 9 (by kernel_rfl)) rfl
      refine wp_store_row 101 _ _ rfl ((w.heap.size + 1)) #[.int .i64 x.r.v, .int .i64 x.r.e, .slice s1 n1 c1, .slice s0 n0 c0, .int .i64 x.s.v, .int .i64 x.s.e, .slice s2 n2 c2, .int .i64 x.s.lv, .int .u64 x.s.lh, .int .i64 x.l.v, .int .i64 x.l.e, .slice s4 n4 c4, .slice s3 n3 c3] fb f 101 _ hgb (by kernel_rfl) rfl (by simp [Value.oneCell']) ?_
      have ht := setRow_touch W ((w.heap.size + 1)) #[.int .i64 x.r.v, .int .i64 x.r.e, .slice s1 n1 c1, .slice s0 n0 c0, .int .i64 x.s.v, .int .i64 x.s.e, .slice s2 n2 c2, .int .i64 x.s.lv, .int .u64 x.s.lh, .int .i64 x.l.v, .int .i64 x.l.e, .slice s4 n4 c4, .slice s3 n3 c3]
      exact hKQ.out _ _ (hI.store 10 (fun j hj => by cases hj) (hI.bel.trans (ht.below (by first | exact HGE2 | omega) (Nat.le_trans HBB hI.bel.size))) (tc1_st10 x s0 n0 c0 s1 n1 c1 s2 n2 c2 s3 n3 c3 s4 n4 c4 w.heap.size (w.heap.size) hgb ht) (setRow_heap W ((w.heap.size + 1)) _ _ _ _ hgb))
  · intro b W hf hb F
    have hbx := F 10 (of_decide_eq_true rfl) rfl
    rw [hf.eq]
    simp only [puts, Act.put, List.setIfInBounds_toArray, List.set_cons_zero, List.set_cons_succ]
    clear hf F
    generalize aT b = AT
    go_wp2
    try simp only [Exit.inBlock, Exit.then]
    exact bodyPost_ret (results_client rfl _ (w.heap.size + 1) rfl _ _ rfl hbx) rfl ⟨rfl, hbb.trans hb⟩

end Go.Proofs.YtglpbgebcpijaaaGreat

set_option linter.unusedVariables false
namespace Go.Proofs.YtglpbgebcpijaaaGreat
open Go.RowKit Go.Sort

theorem three_blocks (w : World) (o0 o1 o2 : Obj) : (((w.alloc o0).alloc o1).alloc o2).heap[w.heap.size]? = some o0 ∧ (((w.alloc o0).alloc o1).alloc o2).heap[w.heap.size + 1]? = some o1 ∧ (((w.alloc o0).alloc o1).alloc o2).heap[w.heap.size + 1 + 1]? = some o2 := by
  have h := two_blocks w o0 o1
  have s1 : (w.alloc o0).heap.size = w.heap.size + 1 := by simp
  have s2 : ((w.alloc o0).alloc o1).heap.size = w.heap.size + 1 + 1 := by simp
  have hb : Below ((w.alloc o0).alloc o1).heap.size ((w.alloc o0).alloc o1) (((w.alloc o0).alloc o1).alloc o2) := (Below.refl _ _).alloc (Nat.le_refl _) _
  refine ⟨below_kept h.1 hb, below_kept h.2 hb, ?_⟩
  have := heap_alloc_new ((w.alloc o0).alloc o1) o2
  rw [s2] at this
  exact this
/-- What is known of a region (RJ). -/
def tn3 (x : TsP) (s0 : Option Addr) (n0 c0 : Nat) (s1 : Option Addr) (n1 c1 : Nat) (s2 : Option Addr) (n2 c2 : Nat) (s3 : Option Addr) (n3 c3 : Nat) (s4 : Option Addr) (n4 c4 : Nat) (G B : Nat) : RSpec where
  m := 4
  n := 5
  slots := [10, 11, 9, 9, 100004]
  kills := [[], [], [3], [], []]
  pres := [[], [], [], [2], []]
  fact := fun k v w => match k with
    | 0 => v = .agg #[.int .i64 x.r.v, .int .i64 x.r.e, .slice s0 n0 c0, .slice s1 n1 c1, .int .i64 x.s.v, .int .i64 x.s.e, .int .i64 x.s.lv, .int .u64 x.s.lh, .slice s2 n2 c2, .int .i64 x.l.v, .int .i64 x.l.e, .slice s3 n3 c3, .slice s4 n4 c4]
    | 1 => v = .agg #[.int .i64 x.r.v, .int .i64 x.r.e, .slice s1 n1 c1, .slice s0 n0 c0, .int .i64 x.s.v, .int .i64 x.s.e, .slice s2 n2 c2, .int .i64 x.s.lv, .int .u64 x.s.lh, .int .i64 x.l.v, .int .i64 x.l.e, .slice s4 n4 c4, .slice s3 n3 c3]
    | 2 => ∃ gb2, v = .pointer (some ⟨gb2, 0, none⟩) ∧ w.heap[gb2]? = some (.cells #[.int .i64 0, .int .i64 0, .slice none 0 0, .slice none 0 0, .int .i64 0, .int .i64 0, .slice none 0 0, .int .i64 0, .int .u64 0, .int .i64 0, .int .i64 0, .slice none 0 0, .slice none 0 0] 101 (0, 0)) ∧ B ≤ gb2
    | 3 => ∃ gs3, v = .pointer (some ⟨gs3, 0, none⟩) ∧ w.heap[gs3]? = some (.cells #[.int .i64 x.r.v, .int .i64 x.r.e, .slice s1 n1 c1, .slice s0 n0 c0, .int .i64 x.s.v, .int .i64 x.s.e, .slice s2 n2 c2, .int .i64 x.s.lv, .int .u64 x.s.lh, .int .i64 x.l.v, .int .i64 x.l.e, .slice s4 n4 c4, .slice s3 n3 c3] 101 (0, 0)) ∧ B ≤ gs3
    | _ => w.heap[G]? = some (.cells #[.int .i64 x.r.v, .int .i64 x.r.e, .slice s0 n0 c0, .slice s1 n1 c1, .int .i64 x.s.v, .int .i64 x.s.e, .int .i64 x.s.lv, .int .u64 x.s.lh, .slice s2 n2 c2, .int .i64 x.l.v, .int .i64 x.l.e, .slice s3 n3 c3, .slice s4 n4 c4] 60 (0, 0))
set_option linter.unusedVariables false in
theorem tn3_stb (x : TsP) (s0 : Option Addr) (n0 c0 : Nat) (s1 : Option Addr) (n1 c1 : Nat) (s2 : Option Addr) (n2 c2 : Nat) (s3 : Option Addr) (n3 c3 : Nat) (s4 : Option Addr) (n4 c4 : Nat) (G B : Nat) (k : Nat) (hk : k < 5) : StB ((tn3 x s0 n0 c0 s1 n1 c1 s2 n2 c2 s3 n3 c3 s4 n4 c4 G (B)).fact k) := by
  match k, hk with
  | 0, _ => exact fun _ _ _ h _ => h
  | 1, _ => exact fun _ _ _ h _ => h
  | 2, _ => exact fun _ _ _ ⟨gb2, hv, q_0, q_1⟩ hb => ⟨gb2, hv, below_kept q_0 hb, q_1⟩
  | 3, _ => exact fun _ _ _ ⟨gs3, hv, q_0, q_1⟩ hb => ⟨gs3, hv, below_kept q_0 hb, q_1⟩
  | 4, _ => exact fun _ _ _ q_0 hb => below_kept q_0 hb
  | k + 5, hk => omega
set_option linter.unusedVariables false in
theorem tn3_st3 (x : TsP) (s0 : Option Addr) (n0 c0 : Nat) (s1 : Option Addr) (n1 c1 : Nat) (s2 : Option Addr) (n2 c2 : Nat) (s3 : Option Addr) (n3 c3 : Nat) (s4 : Option Addr) (n4 c4 : Nat) (G B : Nat) {W W2 : World} {g : Nat} {cs : Array Value} {fr : Nat × Nat} (hg : W.heap[g]? = some (.cells cs 101 fr)) (ht : Touch (g) (g + 1) W W2) (hge : B ≤ g) (k : Nat) (hk : k < 5) (hne : k ≠ 3) (hkill : 3 ∉ (tn3 x s0 n0 c0 s1 n1 c1 s2 n2 c2 s3 n3 c3 s4 n4 c4 G (B)).kill k) (v : Value) (hfact : (tn3 x s0 n0 c0 s1 n1 c1 s2 n2 c2 s3 n3 c3 s4 n4 c4 G (B)).fact k v W) : (tn3 x s0 n0 c0 s1 n1 c1 s2 n2 c2 s3 n3 c3 s4 n4 c4 G (B)).fact k v W2 := by
  match k, hk, hne, hkill, hfact with
  | 0, _, _, _, hq => exact hq
  | 1, _, _, _, hq => exact hq
  | 2, _, _, hkill, _ => exact absurd (List.Mem.head _) hkill
  | 3, _, hne, _, _ => exact absurd rfl hne
  | 4, _, _, _, q_0 => exact box_box q_0 hg (by decide) ht
  | k + 5, hk, _, _, _ => omega

set_option maxRecDepth 10000 in
set_option maxHeartbeats 8000000 in
theorem implTrusted_any (x : TsP) (key at2 now : Int) (s0 : Option Addr) (n0 c0 : Nat) (s1 : Option Addr) (n1 c1 : Nat) (s2 : Option Addr) (n2 c2 : Nat) (s3 : Option Addr) (n3 c3 : Nat) (s4 : Option Addr) (n4 c4 : Nat) (w : World) (h : TsR x s0 n0 s1 n1 s2 n2 s3 n3 s4 n4 w) :
    Calls Tryz.prog 17 #[.agg #[.int .i64 x.r.v, .int .i64 x.r.e, .slice s0 n0 c0, .slice s1 n1 c1, .int .i64 x.s.v, .int .i64 x.s.e, .int .i64 x.s.lv, .int .u64 x.s.lh, .slice s2 n2 c2, .int .i64 x.l.v, .int .i64 x.l.e, .slice s3 n3 c3, .slice s4 n4 c4], .int .u64 key, .int .i64 at2, .int .i64 now] w (SaysG (truP x key at2 now) w) := by
  obtain ⟨w1, hw1⟩ : ∃ w1, w1 = ((w.alloc (.cells #[.int .i64 x.r.v, .int .i64 x.r.e, .slice s0 n0 c0, .slice s1 n1 c1, .int .i64 x.s.v, .int .i64 x.s.e, .int .i64 x.s.lv, .int .u64 x.s.lh, .slice s2 n2 c2, .int .i64 x.l.v, .int .i64 x.l.e, .slice s3 n3 c3, .slice s4 n4 c4] 60)).alloc (.cells #[.int .u64 key] 26)).alloc (.cells #[.int .i64 at2] 2) := ⟨_, rfl⟩
  have hbb : Below w.heap.size w w1 := by rw [hw1]; exact (((Below.refl _ _).alloc (Nat.le_refl _) _).alloc (by simp) _).alloc (by simp; omega) _
  have hB3 := three_blocks w (.cells #[.int .i64 x.r.v, .int .i64 x.r.e, .slice s0 n0 c0, .slice s1 n1 c1, .int .i64 x.s.v, .int .i64 x.s.e, .int .i64 x.s.lv, .int .u64 x.s.lh, .slice s2 n2 c2, .int .i64 x.l.v, .int .i64 x.l.e, .slice s3 n3 c3, .slice s4 n4 c4] 60) (.cells #[.int .u64 key] 26) (.cells #[.int .i64 at2] 2)
  rw [← hw1] at hB3
  have HB1 : Hid (w1.heap[w.heap.size]? = some (.cells #[.int .i64 x.r.v, .int .i64 x.r.e, .slice s0 n0 c0, .slice s1 n1 c1, .int .i64 x.s.v, .int .i64 x.s.e, .int .i64 x.s.lv, .int .u64 x.s.lh, .slice s2 n2 c2, .int .i64 x.l.v, .int .i64 x.l.e, .slice s3 n3 c3, .slice s4 n4 c4] 60 (0, 0))) := hB3.1
  have HTB : Hid (TruB w1 (w.heap.size + 1) (w.heap.size + 1 + 1) key at2) := ⟨⟨(Array.getElem?_eq_some_iff.1 hB3.2.1).1, (Array.getElem?_eq_some_iff.1 hB3.2.2).1⟩, (cell_of_row _ _ 0 _ _ (0, 0) hB3.2.1).trans rfl, (cell_of_row _ _ 0 _ _ (0, 0) hB3.2.2).trans rfl⟩
  have HR : Hid (∀ W, Below w.heap.size w W → TsR x s0 n0 s1 n1 s2 n2 s3 n3 s4 n4 W) := fun W hW => h.kept hW
  have HLN : Hid (x.l.es.length = n3) := h.r3.len
  have HBB : w1.heap.size ≤ w1.heap.size := Nat.le_refl _
  have HW : Hid (_ = _) := hw1
  clear hw1 h hB3
  go_enter Tryz.func17, Tryz.ntmps17
  go_upto_region 1 with fail
  rw [← HW.out]
  clear HW
  refine wp_region_rp (tn3 x s0 n0 c0 s1 n1 c1 s2 n2 c2 s3 n3 c3 s4 n4 c4 w.heap.size (w1.heap.size)) [9, 10, 11] (w1.heap.size) (fun a0 => a0.tmps.size = 60 ∧ aT a0 4 = .pointer (some ⟨w.heap.size, 0, none⟩)) rfl (by kernel_rfl) rfl ⟨rfl, rfl⟩ (tn3_stb x s0 n0 c0 s1 n1 c1 s2 n2 c2 s3 n3 c3 s4 n4 c4 w.heap.size (w1.heap.size)) ?_ ?_ ?_
  · intro k hk hk2
    match k, hk, hk2 with
    | 4, _, _ => exact HB1.out
    | 0, hk, _ => exact absurd hk (by show ¬ (4 ≤ 0); omega)
    | 1, hk, _ => exact absurd hk (by show ¬ (4 ≤ 1); omega)
    | 2, hk, _ => exact absurd hk (by show ¬ (4 ≤ 2); omega)
    | 3, hk, _ => exact absurd hk (by show ¬ (4 ≤ 3); omega)
    | k + 5, _, hk2 => exact absurd hk2 (by show ¬ (k + 5 < 5); omega)
  · rintro a0 ⟨hz, g4⟩
    refine StepsRI.cons ?_ (StepsRI.cons ?_ (StepsRI.cons ?_ (StepsRI.cons ?_ (StepsRI.nil))))
    · intro lQ b W hI hUN hED KQ hKQ
      have hg := (hI.vot 4 (of_decide_eq_true rfl) (of_decide_eq_true rfl) rfl)
      refine wp_load_row 60 _ rfl (w.heap.size) ((hI.fr.same 4 (by decide)).trans g4) 60 #[.int .i64 x.r.v, .int .i64 x.r.e, .slice s0 n0 c0, .slice s1 n1 c1, .int .i64 x.s.v, .int .i64 x.s.e, .int .i64 x.s.lv, .int .u64 x.s.lh, .slice s2 n2 c2, .int .i64 x.l.v, .int .i64 x.l.e, .slice s3 n3 c3, .slice s4 n4 c4] (0, 0) _ hg Tryz.underlying60 rfl (by kernel_rfl) ?_
      exact hKQ.out _ _ (hI.put 0 10 rfl rfl (by rw [hz]; decide) rfl hUN rfl HBB (tn3_stb x s0 n0 c0 s1 n1 c1 s2 n2 c2 s3 n3 c3 s4 n4 c4 w.heap.size (w1.heap.size)) (Below.refl _ _) rfl)
    · intro lQ b W hI hUN hED KQ hKQ
      have f0 := hI.got 0 (of_decide_eq_true rfl) (edge hED 0 (by kernel_rfl)) rfl
      replace f0 : aT b 10 = .agg #[.int .i64 x.r.v, .int .i64 x.r.e, .slice s0 n0 c0, .slice s1 n1 c1, .int .i64 x.s.v, .int .i64 x.s.e, .int .i64 x.s.lv, .int .u64 x.s.lh, .slice s2 n2 c2, .int .i64 x.l.v, .int .i64 x.l.e, .slice s3 n3 c3, .slice s4 n4 c4] := f0
      refine opw_call 40 #[.tmp 10] _ _ _ rfl Tryz.func40 (by kernel_rfl) rfl #[.agg #[.int .i64 x.r.v, .int .i64 x.r.e, .slice s0 n0 c0, .slice s1 n1 c1, .int .i64 x.s.v, .int .i64 x.s.e, .int .i64 x.s.lv, .int .u64 x.s.lh, .slice s2 n2 c2, .int .i64 x.l.v, .int .i64 x.l.e, .slice s3 n3 c3, .slice s4 n4 c4]] (by simp [ev, f0]) ?_
      refine (client_any x s0 n0 c0 s1 n1 c1 s2 n2 c2 s3 n3 c3 s4 n4 c4 W).mono ?_
      rintro e W2 ⟨rfl, hb⟩
      exact ⟨_, rfl, hKQ.out _ _ (hI.put 1 11 rfl rfl (by rw [hz]; decide) rfl hUN rfl HBB (tn3_stb x s0 n0 c0 s1 n1 c1 s2 n2 c2 s3 n3 c3 s4 n4 c4 w.heap.size (w1.heap.size)) hb rfl)⟩
    · intro lQ b W hI hUN hED KQ hKQ
      refine opw_value (w' := W.alloc (.cells #[.int .i64 0, .int .i64 0, .slice none 0 0, .slice none 0 0, .int .i64 0, .int .i64 0, .slice none 0 0, .int .i64 0, .int .u64 0, .int .i64 0, .int .i64 0, .slice none 0 0, .slice none 0 0] 101)) (.pointer (some ⟨W.heap.size, 0, none⟩)) (by kernel_rfl) ?_
      exact hKQ.out _ _ (hI.put 2 9 rfl rfl (by rw [hz]; decide) rfl hUN rfl HBB (tn3_stb x s0 n0 c0 s1 n1 c1 s2 n2 c2 s3 n3 c3 s4 n4 c4 w.heap.size (w1.heap.size)) ((Below.refl _ _).alloc (Nat.le_refl _) _) ⟨W.heap.size, rfl, heap_alloc_new W _, Nat.le_trans HBB hI.bel.size⟩)
    · intro lQ b W hI hUN hED KQ hKQ
      obtain ⟨g, fb, hgb, hge⟩ := hI.got1 2 3 (of_decide_eq_true rfl) (edge hED 2 (by kernel_rfl)) hUN rfl
      have f := hI.got 1 (of_decide_eq_true rfl) (edge hED 1 (by kernel_rfl)) rfl
      refine wp_store_row 101 _ _ rfl g #[.int .i64 x.r.v, .int .i64 x.r.e, .slice s1 n1 c1, .slice s0 n0 c0, .int .i64 x.s.v, .int .i64 x.s.e, .slice s2 n2 c2, .int .i64 x.s.lv, .int .u64 x.s.lh, .int .i64 x.l.v, .int .i64 x.l.e, .slice s4 n4 c4, .slice s3 n3 c3] fb f 101 _ hgb (by kernel_rfl) rfl (by simp [Value.oneCell']) ?_
      have ht := setRow_touch W g #[.int .i64 x.r.v, .int .i64 x.r.e, .slice s1 n1 c1, .slice s0 n0 c0, .int .i64 x.s.v, .int .i64 x.s.e, .slice s2 n2 c2, .int .i64 x.s.lv, .int .u64 x.s.lh, .int .i64 x.l.v, .int .i64 x.l.e, .slice s4 n4 c4, .slice s3 n3 c3]
      exact hKQ.out _ _ (hI.store 3 (fun j hj => by
          rcases List.mem_singleton.1 hj with rfl
          exact edge hED 2 (by kernel_rfl)) (hI.bel.trans (ht.below hge (Nat.le_trans HBB hI.bel.size))) (tn3_st3 x s0 n0 c0 s1 n1 c1 s2 n2 c2 s3 n3 c3 s4 n4 c4 w.heap.size (w1.heap.size) hgb ht hge) ⟨g, fb, (setRow_heap W g _ _ _ _ hgb), hge⟩)
  · intro b W hf hb F
    obtain ⟨gs, e9, hgs, hge⟩ := F 3 (of_decide_eq_true rfl) rfl
    replace e9 : aT b 9 = _ := e9
    have HGS : Hid (W.heap[gs]? = some (.cells #[.int .i64 x.r.v, .int .i64 x.r.e, .slice s1 n1 c1, .slice s0 n0 c0, .int .i64 x.s.v, .int .i64 x.s.e, .slice s2 n2 c2, .int .i64 x.s.lv, .int .u64 x.s.lh, .int .i64 x.l.v, .int .i64 x.l.e, .slice s4 n4 c4, .slice s3 n3 c3] 101 (0, 0))) := hgs
    rw [hf.eq]
    simp only [puts, Act.put, List.setIfInBounds_toArray, List.set_cons_zero, List.set_cons_succ, e9]
    clear hf F e9 hgs
    generalize aT b = AT
    clear b
    have mW : Below w.heap.size w W := keepT hbb hb
    have x0 : W.cell? ⟨gs, 0, none⟩ = some (.int .i64 x.r.v) := (cell_of_row _ _ 0 _ _ (0, 0) HGS.out).trans rfl
    have x1 : W.cell? ⟨gs, 1, none⟩ = some (.int .i64 x.r.e) := (cell_of_row _ _ 1 _ _ (0, 0) HGS.out).trans rfl
    have x2 : W.cell? ⟨gs, 2, none⟩ = some (.slice s1 n1 c1) := (cell_of_row _ _ 2 _ _ (0, 0) HGS.out).trans rfl
    have x3 : W.cell? ⟨gs, 3, none⟩ = some (.slice s0 n0 c0) := (cell_of_row _ _ 3 _ _ (0, 0) HGS.out).trans rfl
    have x4 : W.cell? ⟨gs, 4, none⟩ = some (.int .i64 x.s.v) := (cell_of_row _ _ 4 _ _ (0, 0) HGS.out).trans rfl
    have x5 : W.cell? ⟨gs, 5, none⟩ = some (.int .i64 x.s.e) := (cell_of_row _ _ 5 _ _ (0, 0) HGS.out).trans rfl
    have x6 : W.cell? ⟨gs, 6, none⟩ = some (.slice s2 n2 c2) := (cell_of_row _ _ 6 _ _ (0, 0) HGS.out).trans rfl
    have x7 : W.cell? ⟨gs, 7, none⟩ = some (.int .i64 x.s.lv) := (cell_of_row _ _ 7 _ _ (0, 0) HGS.out).trans rfl
    have x8 : W.cell? ⟨gs, 8, none⟩ = some (.int .u64 x.s.lh) := (cell_of_row _ _ 8 _ _ (0, 0) HGS.out).trans rfl
    have x9 : W.cell? ⟨gs, 9, none⟩ = some (.int .i64 x.l.v) := (cell_of_row _ _ 9 _ _ (0, 0) HGS.out).trans rfl
    have x10 : W.cell? ⟨gs, 10, none⟩ = some (.int .i64 x.l.e) := (cell_of_row _ _ 10 _ _ (0, 0) HGS.out).trans rfl
    have x11 : W.cell? ⟨gs, 11, none⟩ = some (.slice s4 n4 c4) := (cell_of_row _ _ 11 _ _ (0, 0) HGS.out).trans rfl
    have x12 : W.cell? ⟨gs, 12, none⟩ = some (.slice s3 n3 c3) := (cell_of_row _ _ 12 _ _ (0, 0) HGS.out).trans rfl
    go_wp2_with fail
    refine (rootOk_any x.r s0 n0 c0 s1 n1 c1 _ (HR.out _ mW).r0 (HR.out _ mW).r1).mono ?_
    rintro r1 v0 ⟨b_v0, rfl, HE, hb_v0⟩
    have k_v0 : Below W.heap.size W v0 := hb_v0
    have m_v0 : Below w.heap.size w v0 := keepT mW k_v0
    clear x0 x1 x2 x3 x4 x5 x6 x7 x8 x9 x10 x11 x12
    have x0 : v0.cell? ⟨gs, 0, none⟩ = some (.int .i64 x.r.v) := (cell_of_row _ _ 0 _ _ (0, 0) (below_kept HGS.out k_v0)).trans rfl
    have x1 : v0.cell? ⟨gs, 1, none⟩ = some (.int .i64 x.r.e) := (cell_of_row _ _ 1 _ _ (0, 0) (below_kept HGS.out k_v0)).trans rfl
    have x2 : v0.cell? ⟨gs, 2, none⟩ = some (.slice s1 n1 c1) := (cell_of_row _ _ 2 _ _ (0, 0) (below_kept HGS.out k_v0)).trans rfl
    have x3 : v0.cell? ⟨gs, 3, none⟩ = some (.slice s0 n0 c0) := (cell_of_row _ _ 3 _ _ (0, 0) (below_kept HGS.out k_v0)).trans rfl
    have x4 : v0.cell? ⟨gs, 4, none⟩ = some (.int .i64 x.s.v) := (cell_of_row _ _ 4 _ _ (0, 0) (below_kept HGS.out k_v0)).trans rfl
    have x5 : v0.cell? ⟨gs, 5, none⟩ = some (.int .i64 x.s.e) := (cell_of_row _ _ 5 _ _ (0, 0) (below_kept HGS.out k_v0)).trans rfl
    have x6 : v0.cell? ⟨gs, 6, none⟩ = some (.slice s2 n2 c2) := (cell_of_row _ _ 6 _ _ (0, 0) (below_kept HGS.out k_v0)).trans rfl
    have x7 : v0.cell? ⟨gs, 7, none⟩ = some (.int .i64 x.s.lv) := (cell_of_row _ _ 7 _ _ (0, 0) (below_kept HGS.out k_v0)).trans rfl
    have x8 : v0.cell? ⟨gs, 8, none⟩ = some (.int .u64 x.s.lh) := (cell_of_row _ _ 8 _ _ (0, 0) (below_kept HGS.out k_v0)).trans rfl
    have x9 : v0.cell? ⟨gs, 9, none⟩ = some (.int .i64 x.l.v) := (cell_of_row _ _ 9 _ _ (0, 0) (below_kept HGS.out k_v0)).trans rfl
    have x10 : v0.cell? ⟨gs, 10, none⟩ = some (.int .i64 x.l.e) := (cell_of_row _ _ 10 _ _ (0, 0) (below_kept HGS.out k_v0)).trans rfl
    have x11 : v0.cell? ⟨gs, 11, none⟩ = some (.slice s4 n4 c4) := (cell_of_row _ _ 11 _ _ (0, 0) (below_kept HGS.out k_v0)).trans rfl
    have x12 : v0.cell? ⟨gs, 12, none⟩ = some (.slice s3 n3 c3) := (cell_of_row _ _ 12 _ _ (0, 0) (below_kept HGS.out k_v0)).trans rfl
    cases b_v0 with
    | false =>
      have HF : Hid (¬ truP x key at2 now) := fun hr => by have := HE.out.2 (hr.1); cases this
      clear HE
      go_wp2
      go_ret
      exact saysG_f HF.out m_v0
    | true =>
    have H1 : Hid (rootP x.r) := HE.out.1 rfl
    clear HE
    go_wp2_with fail
    refine (stampOk_any x.s s2 n2 c2 _ (HR.out _ m_v0).r2).mono ?_
    rintro r1 v1 ⟨b_v1, rfl, HE, hb_v1⟩
    have k_v1 : Below W.heap.size W v1 := keepT k_v0 hb_v1
    have m_v1 : Below w.heap.size w v1 := keepT mW k_v1
    clear x0 x1 x2 x3 x4 x5 x6 x7 x8 x9 x10 x11 x12
    have x0 : v1.cell? ⟨gs, 0, none⟩ = some (.int .i64 x.r.v) := (cell_of_row _ _ 0 _ _ (0, 0) (below_kept HGS.out k_v1)).trans rfl
    have x1 : v1.cell? ⟨gs, 1, none⟩ = some (.int .i64 x.r.e) := (cell_of_row _ _ 1 _ _ (0, 0) (below_kept HGS.out k_v1)).trans rfl
    have x2 : v1.cell? ⟨gs, 2, none⟩ = some (.slice s1 n1 c1) := (cell_of_row _ _ 2 _ _ (0, 0) (below_kept HGS.out k_v1)).trans rfl
    have x3 : v1.cell? ⟨gs, 3, none⟩ = some (.slice s0 n0 c0) := (cell_of_row _ _ 3 _ _ (0, 0) (below_kept HGS.out k_v1)).trans rfl
    have x4 : v1.cell? ⟨gs, 4, none⟩ = some (.int .i64 x.s.v) := (cell_of_row _ _ 4 _ _ (0, 0) (below_kept HGS.out k_v1)).trans rfl
    have x5 : v1.cell? ⟨gs, 5, none⟩ = some (.int .i64 x.s.e) := (cell_of_row _ _ 5 _ _ (0, 0) (below_kept HGS.out k_v1)).trans rfl
    have x6 : v1.cell? ⟨gs, 6, none⟩ = some (.slice s2 n2 c2) := (cell_of_row _ _ 6 _ _ (0, 0) (below_kept HGS.out k_v1)).trans rfl
    have x7 : v1.cell? ⟨gs, 7, none⟩ = some (.int .i64 x.s.lv) := (cell_of_row _ _ 7 _ _ (0, 0) (below_kept HGS.out k_v1)).trans rfl
    have x8 : v1.cell? ⟨gs, 8, none⟩ = some (.int .u64 x.s.lh) := (cell_of_row _ _ 8 _ _ (0, 0) (below_kept HGS.out k_v1)).trans rfl
    have x9 : v1.cell? ⟨gs, 9, none⟩ = some (.int .i64 x.l.v) := (cell_of_row _ _ 9 _ _ (0, 0) (below_kept HGS.out k_v1)).trans rfl
    have x10 : v1.cell? ⟨gs, 10, none⟩ = some (.int .i64 x.l.e) := (cell_of_row _ _ 10 _ _ (0, 0) (below_kept HGS.out k_v1)).trans rfl
    have x11 : v1.cell? ⟨gs, 11, none⟩ = some (.slice s4 n4 c4) := (cell_of_row _ _ 11 _ _ (0, 0) (below_kept HGS.out k_v1)).trans rfl
    have x12 : v1.cell? ⟨gs, 12, none⟩ = some (.slice s3 n3 c3) := (cell_of_row _ _ 12 _ _ (0, 0) (below_kept HGS.out k_v1)).trans rfl
    cases b_v1 with
    | false =>
      have HF : Hid (¬ truP x key at2 now) := fun hr => by have := HE.out.2 (hr.2.1); cases this
      clear HE
      go_wp2
      go_ret
      exact saysG_f HF.out m_v1
    | true =>
    have H2 : Hid (stampP x.s) := HE.out.1 rfl
    clear HE
    go_wp2_with fail
    refine (listOk_any x.l s3 n3 c3 s4 n4 c4 _ (HR.out _ m_v1).r3 (HR.out _ m_v1).m3 (HR.out _ m_v1).r4).mono ?_
    rintro r1 v2 ⟨b_v2, rfl, HE, hb_v2⟩
    have k_v2 : Below W.heap.size W v2 := keepT k_v1 hb_v2
    have m_v2 : Below w.heap.size w v2 := keepT mW k_v2
    clear x0 x1 x2 x3 x4 x5 x6 x7 x8 x9 x10 x11 x12
    have x0 : v2.cell? ⟨gs, 0, none⟩ = some (.int .i64 x.r.v) := (cell_of_row _ _ 0 _ _ (0, 0) (below_kept HGS.out k_v2)).trans rfl
    have x1 : v2.cell? ⟨gs, 1, none⟩ = some (.int .i64 x.r.e) := (cell_of_row _ _ 1 _ _ (0, 0) (below_kept HGS.out k_v2)).trans rfl
    have x2 : v2.cell? ⟨gs, 2, none⟩ = some (.slice s1 n1 c1) := (cell_of_row _ _ 2 _ _ (0, 0) (below_kept HGS.out k_v2)).trans rfl
    have x3 : v2.cell? ⟨gs, 3, none⟩ = some (.slice s0 n0 c0) := (cell_of_row _ _ 3 _ _ (0, 0) (below_kept HGS.out k_v2)).trans rfl
    have x4 : v2.cell? ⟨gs, 4, none⟩ = some (.int .i64 x.s.v) := (cell_of_row _ _ 4 _ _ (0, 0) (below_kept HGS.out k_v2)).trans rfl
    have x5 : v2.cell? ⟨gs, 5, none⟩ = some (.int .i64 x.s.e) := (cell_of_row _ _ 5 _ _ (0, 0) (below_kept HGS.out k_v2)).trans rfl
    have x6 : v2.cell? ⟨gs, 6, none⟩ = some (.slice s2 n2 c2) := (cell_of_row _ _ 6 _ _ (0, 0) (below_kept HGS.out k_v2)).trans rfl
    have x7 : v2.cell? ⟨gs, 7, none⟩ = some (.int .i64 x.s.lv) := (cell_of_row _ _ 7 _ _ (0, 0) (below_kept HGS.out k_v2)).trans rfl
    have x8 : v2.cell? ⟨gs, 8, none⟩ = some (.int .u64 x.s.lh) := (cell_of_row _ _ 8 _ _ (0, 0) (below_kept HGS.out k_v2)).trans rfl
    have x9 : v2.cell? ⟨gs, 9, none⟩ = some (.int .i64 x.l.v) := (cell_of_row _ _ 9 _ _ (0, 0) (below_kept HGS.out k_v2)).trans rfl
    have x10 : v2.cell? ⟨gs, 10, none⟩ = some (.int .i64 x.l.e) := (cell_of_row _ _ 10 _ _ (0, 0) (below_kept HGS.out k_v2)).trans rfl
    have x11 : v2.cell? ⟨gs, 11, none⟩ = some (.slice s4 n4 c4) := (cell_of_row _ _ 11 _ _ (0, 0) (below_kept HGS.out k_v2)).trans rfl
    have x12 : v2.cell? ⟨gs, 12, none⟩ = some (.slice s3 n3 c3) := (cell_of_row _ _ 12 _ _ (0, 0) (below_kept HGS.out k_v2)).trans rfl
    cases b_v2 with
    | false =>
      have HF : Hid (¬ truP x key at2 now) := fun hr => by have := HE.out.2 (hr.2.2.1); cases this
      clear HE
      go_wp2
      go_ret
      exact saysG_f HF.out m_v2
    | true =>
    have H3 : Hid (listP x.l) := HE.out.1 rfl
    clear HE
    go_wp2_with fail
    refine (isLate_any x.r.v x.r.e now s1 n1 c1 _).mono ?_
    rintro r1 v3 ⟨rfl, hb_v3⟩
    have k_v3 : Below W.heap.size W v3 := keepT k_v2 hb_v3
    have m_v3 : Below w.heap.size w v3 := keepT mW k_v3
    clear x0 x1 x2 x3 x4 x5 x6 x7 x8 x9 x10 x11 x12
    have x0 : v3.cell? ⟨gs, 0, none⟩ = some (.int .i64 x.r.v) := (cell_of_row _ _ 0 _ _ (0, 0) (below_kept HGS.out k_v3)).trans rfl
    have x1 : v3.cell? ⟨gs, 1, none⟩ = some (.int .i64 x.r.e) := (cell_of_row _ _ 1 _ _ (0, 0) (below_kept HGS.out k_v3)).trans rfl
    have x2 : v3.cell? ⟨gs, 2, none⟩ = some (.slice s1 n1 c1) := (cell_of_row _ _ 2 _ _ (0, 0) (below_kept HGS.out k_v3)).trans rfl
    have x3 : v3.cell? ⟨gs, 3, none⟩ = some (.slice s0 n0 c0) := (cell_of_row _ _ 3 _ _ (0, 0) (below_kept HGS.out k_v3)).trans rfl
    have x4 : v3.cell? ⟨gs, 4, none⟩ = some (.int .i64 x.s.v) := (cell_of_row _ _ 4 _ _ (0, 0) (below_kept HGS.out k_v3)).trans rfl
    have x5 : v3.cell? ⟨gs, 5, none⟩ = some (.int .i64 x.s.e) := (cell_of_row _ _ 5 _ _ (0, 0) (below_kept HGS.out k_v3)).trans rfl
    have x6 : v3.cell? ⟨gs, 6, none⟩ = some (.slice s2 n2 c2) := (cell_of_row _ _ 6 _ _ (0, 0) (below_kept HGS.out k_v3)).trans rfl
    have x7 : v3.cell? ⟨gs, 7, none⟩ = some (.int .i64 x.s.lv) := (cell_of_row _ _ 7 _ _ (0, 0) (below_kept HGS.out k_v3)).trans rfl
    have x8 : v3.cell? ⟨gs, 8, none⟩ = some (.int .u64 x.s.lh) := (cell_of_row _ _ 8 _ _ (0, 0) (below_kept HGS.out k_v3)).trans rfl
    have x9 : v3.cell? ⟨gs, 9, none⟩ = some (.int .i64 x.l.v) := (cell_of_row _ _ 9 _ _ (0, 0) (below_kept HGS.out k_v3)).trans rfl
    have x10 : v3.cell? ⟨gs, 10, none⟩ = some (.int .i64 x.l.e) := (cell_of_row _ _ 10 _ _ (0, 0) (below_kept HGS.out k_v3)).trans rfl
    have x11 : v3.cell? ⟨gs, 11, none⟩ = some (.slice s4 n4 c4) := (cell_of_row _ _ 11 _ _ (0, 0) (below_kept HGS.out k_v3)).trans rfl
    have x12 : v3.cell? ⟨gs, 12, none⟩ = some (.slice s3 n3 c3) := (cell_of_row _ _ 12 _ _ (0, 0) (below_kept HGS.out k_v3)).trans rfl
    by_cases h_v3 : x.r.e ≤ now
    · have HF : Hid (¬ truP x key at2 now) := fun ht => by have := ht.2.2.2.1; omega
      rw [decide_eq_true h_v3]
      clear h_v3
      go_wp2
      go_ret
      exact saysG_f HF.out m_v3
    rw [decide_eq_false h_v3]
    have HL_v3 : Hid (now < x.r.e) := by show _ < _; omega
    clear h_v3
    go_wp2_with fail
    refine (isLate_any x.s.v x.s.e now s2 n2 c2 _).mono ?_
    rintro r1 v4 ⟨rfl, hb_v4⟩
    have k_v4 : Below W.heap.size W v4 := keepT k_v3 hb_v4
    have m_v4 : Below w.heap.size w v4 := keepT mW k_v4
    clear x0 x1 x2 x3 x4 x5 x6 x7 x8 x9 x10 x11 x12
    have x0 : v4.cell? ⟨gs, 0, none⟩ = some (.int .i64 x.r.v) := (cell_of_row _ _ 0 _ _ (0, 0) (below_kept HGS.out k_v4)).trans rfl
    have x1 : v4.cell? ⟨gs, 1, none⟩ = some (.int .i64 x.r.e) := (cell_of_row _ _ 1 _ _ (0, 0) (below_kept HGS.out k_v4)).trans rfl
    have x2 : v4.cell? ⟨gs, 2, none⟩ = some (.slice s1 n1 c1) := (cell_of_row _ _ 2 _ _ (0, 0) (below_kept HGS.out k_v4)).trans rfl
    have x3 : v4.cell? ⟨gs, 3, none⟩ = some (.slice s0 n0 c0) := (cell_of_row _ _ 3 _ _ (0, 0) (below_kept HGS.out k_v4)).trans rfl
    have x4 : v4.cell? ⟨gs, 4, none⟩ = some (.int .i64 x.s.v) := (cell_of_row _ _ 4 _ _ (0, 0) (below_kept HGS.out k_v4)).trans rfl
    have x5 : v4.cell? ⟨gs, 5, none⟩ = some (.int .i64 x.s.e) := (cell_of_row _ _ 5 _ _ (0, 0) (below_kept HGS.out k_v4)).trans rfl
    have x6 : v4.cell? ⟨gs, 6, none⟩ = some (.slice s2 n2 c2) := (cell_of_row _ _ 6 _ _ (0, 0) (below_kept HGS.out k_v4)).trans rfl
    have x7 : v4.cell? ⟨gs, 7, none⟩ = some (.int .i64 x.s.lv) := (cell_of_row _ _ 7 _ _ (0, 0) (below_kept HGS.out k_v4)).trans rfl
    have x8 : v4.cell? ⟨gs, 8, none⟩ = some (.int .u64 x.s.lh) := (cell_of_row _ _ 8 _ _ (0, 0) (below_kept HGS.out k_v4)).trans rfl
    have x9 : v4.cell? ⟨gs, 9, none⟩ = some (.int .i64 x.l.v) := (cell_of_row _ _ 9 _ _ (0, 0) (below_kept HGS.out k_v4)).trans rfl
    have x10 : v4.cell? ⟨gs, 10, none⟩ = some (.int .i64 x.l.e) := (cell_of_row _ _ 10 _ _ (0, 0) (below_kept HGS.out k_v4)).trans rfl
    have x11 : v4.cell? ⟨gs, 11, none⟩ = some (.slice s4 n4 c4) := (cell_of_row _ _ 11 _ _ (0, 0) (below_kept HGS.out k_v4)).trans rfl
    have x12 : v4.cell? ⟨gs, 12, none⟩ = some (.slice s3 n3 c3) := (cell_of_row _ _ 12 _ _ (0, 0) (below_kept HGS.out k_v4)).trans rfl
    by_cases h_v4 : x.s.e ≤ now
    · have HF : Hid (¬ truP x key at2 now) := fun ht => by have := ht.2.2.2.1; omega
      rw [decide_eq_true h_v4]
      clear h_v4
      go_wp2
      go_ret
      exact saysG_f HF.out m_v4
    rw [decide_eq_false h_v4]
    have HL_v4 : Hid (now < x.s.e) := by show _ < _; omega
    clear h_v4
    go_wp2_with fail
    refine (isLate_any x.l.v x.l.e now s4 n4 c4 _).mono ?_
    rintro r1 v5 ⟨rfl, hb_v5⟩
    have k_v5 : Below W.heap.size W v5 := keepT k_v4 hb_v5
    have m_v5 : Below w.heap.size w v5 := keepT mW k_v5
    clear x0 x1 x2 x3 x4 x5 x6 x7 x8 x9 x10 x11 x12
    have x0 : v5.cell? ⟨gs, 0, none⟩ = some (.int .i64 x.r.v) := (cell_of_row _ _ 0 _ _ (0, 0) (below_kept HGS.out k_v5)).trans rfl
    have x1 : v5.cell? ⟨gs, 1, none⟩ = some (.int .i64 x.r.e) := (cell_of_row _ _ 1 _ _ (0, 0) (below_kept HGS.out k_v5)).trans rfl
    have x2 : v5.cell? ⟨gs, 2, none⟩ = some (.slice s1 n1 c1) := (cell_of_row _ _ 2 _ _ (0, 0) (below_kept HGS.out k_v5)).trans rfl
    have x3 : v5.cell? ⟨gs, 3, none⟩ = some (.slice s0 n0 c0) := (cell_of_row _ _ 3 _ _ (0, 0) (below_kept HGS.out k_v5)).trans rfl
    have x4 : v5.cell? ⟨gs, 4, none⟩ = some (.int .i64 x.s.v) := (cell_of_row _ _ 4 _ _ (0, 0) (below_kept HGS.out k_v5)).trans rfl
    have x5 : v5.cell? ⟨gs, 5, none⟩ = some (.int .i64 x.s.e) := (cell_of_row _ _ 5 _ _ (0, 0) (below_kept HGS.out k_v5)).trans rfl
    have x6 : v5.cell? ⟨gs, 6, none⟩ = some (.slice s2 n2 c2) := (cell_of_row _ _ 6 _ _ (0, 0) (below_kept HGS.out k_v5)).trans rfl
    have x7 : v5.cell? ⟨gs, 7, none⟩ = some (.int .i64 x.s.lv) := (cell_of_row _ _ 7 _ _ (0, 0) (below_kept HGS.out k_v5)).trans rfl
    have x8 : v5.cell? ⟨gs, 8, none⟩ = some (.int .u64 x.s.lh) := (cell_of_row _ _ 8 _ _ (0, 0) (below_kept HGS.out k_v5)).trans rfl
    have x9 : v5.cell? ⟨gs, 9, none⟩ = some (.int .i64 x.l.v) := (cell_of_row _ _ 9 _ _ (0, 0) (below_kept HGS.out k_v5)).trans rfl
    have x10 : v5.cell? ⟨gs, 10, none⟩ = some (.int .i64 x.l.e) := (cell_of_row _ _ 10 _ _ (0, 0) (below_kept HGS.out k_v5)).trans rfl
    have x11 : v5.cell? ⟨gs, 11, none⟩ = some (.slice s4 n4 c4) := (cell_of_row _ _ 11 _ _ (0, 0) (below_kept HGS.out k_v5)).trans rfl
    have x12 : v5.cell? ⟨gs, 12, none⟩ = some (.slice s3 n3 c3) := (cell_of_row _ _ 12 _ _ (0, 0) (below_kept HGS.out k_v5)).trans rfl
    by_cases h_v5 : x.l.e ≤ now
    · have HF : Hid (¬ truP x key at2 now) := fun ht => by have := ht.2.2.2.1; omega
      rw [decide_eq_true h_v5]
      clear h_v5
      go_wp2
      go_ret
      exact saysG_f HF.out m_v5
    rw [decide_eq_false h_v5]
    have HL_v5 : Hid (now < x.l.e) := by show _ < _; omega
    clear h_v5
    go_wp2_with fail
    refine (names_any x.s x.l s2 n2 c2 s4 n4 c4 s3 n3 c3 _ (HR.out _ m_v5).r3 H3.out).mono ?_
    rintro r1 v6 ⟨b_v6, rfl, HE, hb_v6⟩
    have k_v6 : Below W.heap.size W v6 := keepT k_v5 hb_v6
    have m_v6 : Below w.heap.size w v6 := keepT mW k_v6
    clear x0 x1 x2 x3 x4 x5 x6 x7 x8 x9 x10 x11 x12
    have x0 : v6.cell? ⟨gs, 0, none⟩ = some (.int .i64 x.r.v) := (cell_of_row _ _ 0 _ _ (0, 0) (below_kept HGS.out k_v6)).trans rfl
    have x1 : v6.cell? ⟨gs, 1, none⟩ = some (.int .i64 x.r.e) := (cell_of_row _ _ 1 _ _ (0, 0) (below_kept HGS.out k_v6)).trans rfl
    have x2 : v6.cell? ⟨gs, 2, none⟩ = some (.slice s1 n1 c1) := (cell_of_row _ _ 2 _ _ (0, 0) (below_kept HGS.out k_v6)).trans rfl
    have x3 : v6.cell? ⟨gs, 3, none⟩ = some (.slice s0 n0 c0) := (cell_of_row _ _ 3 _ _ (0, 0) (below_kept HGS.out k_v6)).trans rfl
    have x4 : v6.cell? ⟨gs, 4, none⟩ = some (.int .i64 x.s.v) := (cell_of_row _ _ 4 _ _ (0, 0) (below_kept HGS.out k_v6)).trans rfl
    have x5 : v6.cell? ⟨gs, 5, none⟩ = some (.int .i64 x.s.e) := (cell_of_row _ _ 5 _ _ (0, 0) (below_kept HGS.out k_v6)).trans rfl
    have x6 : v6.cell? ⟨gs, 6, none⟩ = some (.slice s2 n2 c2) := (cell_of_row _ _ 6 _ _ (0, 0) (below_kept HGS.out k_v6)).trans rfl
    have x7 : v6.cell? ⟨gs, 7, none⟩ = some (.int .i64 x.s.lv) := (cell_of_row _ _ 7 _ _ (0, 0) (below_kept HGS.out k_v6)).trans rfl
    have x8 : v6.cell? ⟨gs, 8, none⟩ = some (.int .u64 x.s.lh) := (cell_of_row _ _ 8 _ _ (0, 0) (below_kept HGS.out k_v6)).trans rfl
    have x9 : v6.cell? ⟨gs, 9, none⟩ = some (.int .i64 x.l.v) := (cell_of_row _ _ 9 _ _ (0, 0) (below_kept HGS.out k_v6)).trans rfl
    have x10 : v6.cell? ⟨gs, 10, none⟩ = some (.int .i64 x.l.e) := (cell_of_row _ _ 10 _ _ (0, 0) (below_kept HGS.out k_v6)).trans rfl
    have x11 : v6.cell? ⟨gs, 11, none⟩ = some (.slice s4 n4 c4) := (cell_of_row _ _ 11 _ _ (0, 0) (below_kept HGS.out k_v6)).trans rfl
    have x12 : v6.cell? ⟨gs, 12, none⟩ = some (.slice s3 n3 c3) := (cell_of_row _ _ 12 _ _ (0, 0) (below_kept HGS.out k_v6)).trans rfl
    cases b_v6 with
    | false =>
      have HF : Hid (¬ truP x key at2 now) := fun hr => by have := HE.out.2 (⟨hr.2.2.2.2.1.symm, hr.2.2.2.2.2.1.symm⟩); cases this
      clear HE
      go_wp2
      go_ret
      exact saysG_f HF.out m_v6
    | true =>
    have H4 : Hid (x.s.lv = x.l.v ∧ x.s.lh = hashL (lbB x.l.v x.l.e x.l.es)) := HE.out.1 rfl
    clear HE
    go_wp2_with fail
    refine (containsTru_any (w.heap.size + 1) (w.heap.size + 1 + 1) key at2 x.l.es s3 n3 c3 _ (HTB.out.kept (keepT hb k_v6)) (HR.out _ m_v6).r3 (HR.out _ m_v6).m3).mono ?_
    rintro r1 v7 ⟨b7, rfl, HE, hb7⟩
    have m7 : Below w.heap.size w v7 := keepT m_v6 hb7
    clear x0 x1 x2 x3 x4 x5 x6 x7 x8 x9 x10 x11 x12
    have HQ : Hid (b7 = true ↔ truP x key at2 now) := by
      show _ ↔ _
      refine ⟨fun e => ⟨H1.out, H2.out, H3.out, ⟨HL_v3.out, HL_v4.out, HL_v5.out⟩, H4.out.1.symm, H4.out.2.symm, ?_⟩, fun ht => HE.out.2 ?_⟩
      · obtain ⟨k, hk, h2⟩ := HE.out.1 e
        exact ⟨k, by rw [HLN.out]; exact hk, (enB_iff _ _ _).1 h2⟩
      · obtain ⟨k, hk, h2⟩ := ht.2.2.2.2.2.2
        exact ⟨k, by rw [HLN.out] at hk; exact hk, (enB_iff _ _ _).2 h2⟩
    clear HE
    go_wp2
    go_ret
    exact ⟨b7, rfl, HQ, m7⟩

end Go.Proofs.YtglpbgebcpijaaaGreat

set_option linter.unusedVariables false
namespace Go.Proofs.YtglpbgebcpijaaaGreat
open Go.RowKit Go.Sort

theorem opw_not {P : Program} {Q : Exit → Act → World → Prop} {o : Oper} {a : Act} {w : World} {K : Act → World → Prop} (t x : Nat) (ho : o.op = .unOp .not t (.tmp x)) (p : Bool) (hx : aT a x = .bool p) (h : K (a.put o.dst (.bool (!p))) w) : o.wp P a w K Q := by
  refine opw_value (.bool (!p)) ?_ h
  have hx' : a.eval (.tmp x) = .bool p := hx
  unfold execOp
  simp only [ho, hx']
  simp [go_sem]
/-- What is known of a region (RJ). -/
def tl10 (x : TsP) (s0 : Option Addr) (n0 c0 : Nat) (s1 : Option Addr) (n1 c1 : Nat) (s2 : Option Addr) (n2 c2 : Nat) (s3 : Option Addr) (n3 c3 : Nat) (s4 : Option Addr) (n4 c4 : Nat) (p0 p1 p2 p3 p4 : Option Addr) (G G2 B : Nat) : RSpec where
  m := 5
  n := 7
  slots := [34, 35, 36, 37, 38, 100005, 100006]
  kills := [[], [], [], [], [], [], []]
  pres := [[], [], [], [], [], [], []]
  fact := fun k v w => match k with
    | 0 => v = .agg #[.int .i64 x.r.v, .int .i64 x.r.e, .slice p0 n0 n0, .slice p1 n1 n1, .int .i64 x.s.v, .int .i64 x.s.e, .int .i64 x.s.lv, .int .u64 x.s.lh, .slice p2 n2 n2, .int .i64 x.l.v, .int .i64 x.l.e, .slice p3 n3 n3, .slice p4 n4 n4]
    | 1 => v = .agg #[.int .i64 x.r.v, .int .i64 x.r.e, .slice s0 n0 c0, .slice s1 n1 c1, .int .i64 x.s.v, .int .i64 x.s.e, .int .i64 x.s.lv, .int .u64 x.s.lh, .slice s2 n2 c2, .int .i64 x.l.v, .int .i64 x.l.e, .slice s3 n3 c3, .slice s4 n4 c4]
    | 2 => ∃ q0 q1 q2 q3 q4, v = .agg #[.int .i64 x.r.v, .int .i64 x.r.e, .slice q0 n0 n0, .slice q1 n1 n1, .int .i64 x.s.v, .int .i64 x.s.e, .int .i64 x.s.lv, .int .u64 x.s.lh, .slice q2 n2 n2, .int .i64 x.l.v, .int .i64 x.l.e, .slice q3 n3 n3, .slice q4 n4 n4] ∧ TsR x q0 n0 q1 n1 q2 n2 q3 n3 q4 n4 w
    | 3 => v = .bool true
    | 4 => v = .bool false
    | 5 => w.heap[G]? = some (.cells #[.int .i64 x.r.v, .int .i64 x.r.e, .slice s0 n0 c0, .slice s1 n1 c1, .int .i64 x.s.v, .int .i64 x.s.e, .int .i64 x.s.lv, .int .u64 x.s.lh, .slice s2 n2 c2, .int .i64 x.l.v, .int .i64 x.l.e, .slice s3 n3 c3, .slice s4 n4 c4] 56 (0, 0))
    | _ => w.heap[G2]? = some (.cells #[.int .i64 x.r.v, .int .i64 x.r.e, .slice p0 n0 n0, .slice p1 n1 n1, .int .i64 x.s.v, .int .i64 x.s.e, .int .i64 x.s.lv, .int .u64 x.s.lh, .slice p2 n2 n2, .int .i64 x.l.v, .int .i64 x.l.e, .slice p3 n3 n3, .slice p4 n4 n4] 60 (0, 0))
set_option linter.unusedVariables false in
theorem tl10_stb (x : TsP) (s0 : Option Addr) (n0 c0 : Nat) (s1 : Option Addr) (n1 c1 : Nat) (s2 : Option Addr) (n2 c2 : Nat) (s3 : Option Addr) (n3 c3 : Nat) (s4 : Option Addr) (n4 c4 : Nat) (p0 p1 p2 p3 p4 : Option Addr) (G G2 B : Nat) (k : Nat) (hk : k < 7) : StB ((tl10 x s0 n0 c0 s1 n1 c1 s2 n2 c2 s3 n3 c3 s4 n4 c4 p0 p1 p2 p3 p4 G G2 (B)).fact k) := by
  match k, hk with
  | 0, _ => exact fun _ _ _ h _ => h
  | 1, _ => exact fun _ _ _ h _ => h
  | 2, _ => exact fun _ _ _ ⟨q0, q1, q2, q3, q4, hv, q_0⟩ hb => ⟨q0, q1, q2, q3, q4, hv, q_0.kept hb⟩
  | 3, _ => exact fun _ _ _ h _ => h
  | 4, _ => exact fun _ _ _ h _ => h
  | 5, _ => exact fun _ _ _ q_0 hb => below_kept q_0 hb
  | 6, _ => exact fun _ _ _ q_0 hb => below_kept q_0 hb
  | k + 7, hk => omega

set_option maxRecDepth 10000 in
set_option maxHeartbeats 8000000 in
theorem lawTrusted_walk (x : TsP) (key at2 now : Int) (s0 : Option Addr) (n0 c0 : Nat) (s1 : Option Addr) (n1 c1 : Nat) (s2 : Option Addr) (n2 c2 : Nat) (s3 : Option Addr) (n3 c3 : Nat) (s4 : Option Addr) (n4 c4 : Nat) (w : World) (h : TsR x s0 n0 s1 n1 s2 n2 s3 n3 s4 n4 w) :
    Calls Tryz.prog 4 #[.agg #[.int .i64 x.r.v, .int .i64 x.r.e, .slice s0 n0 c0, .slice s1 n1 c1, .int .i64 x.s.v, .int .i64 x.s.e, .int .i64 x.s.lv, .int .u64 x.s.lh, .slice s2 n2 c2, .int .i64 x.l.v, .int .i64 x.l.e, .slice s3 n3 c3, .slice s4 n4 c4], .int .u64 key, .int .i64 at2, .int .i64 now] w fun e w' => e = .returned (.bool true) ∧ Below w.heap.size w w' := by
  obtain ⟨w1, hw1⟩ : ∃ w1, w1 = w.alloc (.cells #[.int .i64 x.r.v, .int .i64 x.r.e, .slice s0 n0 c0, .slice s1 n1 c1, .int .i64 x.s.v, .int .i64 x.s.e, .int .i64 x.s.lv, .int .u64 x.s.lh, .slice s2 n2 c2, .int .i64 x.l.v, .int .i64 x.l.e, .slice s3 n3 c3, .slice s4 n4 c4] 56) := ⟨_, rfl⟩
  have hb0 : Below w.heap.size w w1 := by rw [hw1]; exact (Below.refl _ _).alloc (Nat.le_refl _) _
  have HB1 : Hid (w1.heap[w.heap.size]? = some (.cells #[.int .i64 x.r.v, .int .i64 x.r.e, .slice s0 n0 c0, .slice s1 n1 c1, .int .i64 x.s.v, .int .i64 x.s.e, .int .i64 x.s.lv, .int .u64 x.s.lh, .slice s2 n2 c2, .int .i64 x.l.v, .int .i64 x.l.e, .slice s3 n3 c3, .slice s4 n4 c4] 56 (0, 0))) := by show _ = _; rw [hw1]; exact heap_alloc_new w _
  have HR : Hid (∀ W, Below w.heap.size w W → TsR x s0 n0 s1 n1 s2 n2 s3 n3 s4 n4 W) := fun W hW => h.kept hW
  have HW : Hid (_ = _) := hw1
  clear hw1 h
  have x0 : w1.cell? ⟨w.heap.size, 0, none⟩ = some (.int .i64 x.r.v) := (cell_of_row _ _ 0 _ _ (0, 0) HB1.out).trans rfl
  have x1 : w1.cell? ⟨w.heap.size, 1, none⟩ = some (.int .i64 x.r.e) := (cell_of_row _ _ 1 _ _ (0, 0) HB1.out).trans rfl
  have x2 : w1.cell? ⟨w.heap.size, 2, none⟩ = some (.slice s0 n0 c0) := (cell_of_row _ _ 2 _ _ (0, 0) HB1.out).trans rfl
  have x3 : w1.cell? ⟨w.heap.size, 3, none⟩ = some (.slice s1 n1 c1) := (cell_of_row _ _ 3 _ _ (0, 0) HB1.out).trans rfl
  have x4 : w1.cell? ⟨w.heap.size, 4, none⟩ = some (.int .i64 x.s.v) := (cell_of_row _ _ 4 _ _ (0, 0) HB1.out).trans rfl
  have x5 : w1.cell? ⟨w.heap.size, 5, none⟩ = some (.int .i64 x.s.e) := (cell_of_row _ _ 5 _ _ (0, 0) HB1.out).trans rfl
  have x6 : w1.cell? ⟨w.heap.size, 6, none⟩ = some (.int .i64 x.s.lv) := (cell_of_row _ _ 6 _ _ (0, 0) HB1.out).trans rfl
  have x7 : w1.cell? ⟨w.heap.size, 7, none⟩ = some (.int .u64 x.s.lh) := (cell_of_row _ _ 7 _ _ (0, 0) HB1.out).trans rfl
  have x8 : w1.cell? ⟨w.heap.size, 8, none⟩ = some (.slice s2 n2 c2) := (cell_of_row _ _ 8 _ _ (0, 0) HB1.out).trans rfl
  have x9 : w1.cell? ⟨w.heap.size, 9, none⟩ = some (.int .i64 x.l.v) := (cell_of_row _ _ 9 _ _ (0, 0) HB1.out).trans rfl
  have x10 : w1.cell? ⟨w.heap.size, 10, none⟩ = some (.int .i64 x.l.e) := (cell_of_row _ _ 10 _ _ (0, 0) HB1.out).trans rfl
  have x11 : w1.cell? ⟨w.heap.size, 11, none⟩ = some (.slice s3 n3 c3) := (cell_of_row _ _ 11 _ _ (0, 0) HB1.out).trans rfl
  have x12 : w1.cell? ⟨w.heap.size, 12, none⟩ = some (.slice s4 n4 c4) := (cell_of_row _ _ 12 _ _ (0, 0) HB1.out).trans rfl
  go_enter Tryz.func4, Tryz.ntmps4
  go_upto_region 2 with fail
  rw [← HW.out]
  clear HW
  go_wp2_with fail
  refine (szTrustState_any x s0 n0 c0 s1 n1 c1 s2 n2 c2 s3 n3 c3 s4 n4 c4 _ _ (HR.out _ hb0) (by decide) (by decide)).mono ?_
  rintro e w2 ⟨r, rfl, hrr, hb2⟩
  have cw2 : Below w1.heap.size w1 w2 := hb2
  have m2 : Below w.heap.size w w2 := keepT hb0 cw2
  clear x0 x1 x2 x3 x4 x5 x6 x7 x8 x9 x10 x11 x12
  by_cases hneg : r < 0
  · go_wp2
    go_ret
    exact ⟨rfl, m2⟩
  obtain ⟨hr0, hr1, hts⟩ := hrr.resolve_left hneg
  have HTS : Hid (TsS x n0 n1 n2 n3 n4) := hts
  clear hrr hts
  have x0 : w2.cell? ⟨w.heap.size, 0, none⟩ = some (.int .i64 x.r.v) := (cell_of_row _ _ 0 _ _ (0, 0) (below_kept HB1.out cw2)).trans rfl
  have x1 : w2.cell? ⟨w.heap.size, 1, none⟩ = some (.int .i64 x.r.e) := (cell_of_row _ _ 1 _ _ (0, 0) (below_kept HB1.out cw2)).trans rfl
  have x2 : w2.cell? ⟨w.heap.size, 2, none⟩ = some (.slice s0 n0 c0) := (cell_of_row _ _ 2 _ _ (0, 0) (below_kept HB1.out cw2)).trans rfl
  have x3 : w2.cell? ⟨w.heap.size, 3, none⟩ = some (.slice s1 n1 c1) := (cell_of_row _ _ 3 _ _ (0, 0) (below_kept HB1.out cw2)).trans rfl
  have x4 : w2.cell? ⟨w.heap.size, 4, none⟩ = some (.int .i64 x.s.v) := (cell_of_row _ _ 4 _ _ (0, 0) (below_kept HB1.out cw2)).trans rfl
  have x5 : w2.cell? ⟨w.heap.size, 5, none⟩ = some (.int .i64 x.s.e) := (cell_of_row _ _ 5 _ _ (0, 0) (below_kept HB1.out cw2)).trans rfl
  have x6 : w2.cell? ⟨w.heap.size, 6, none⟩ = some (.int .i64 x.s.lv) := (cell_of_row _ _ 6 _ _ (0, 0) (below_kept HB1.out cw2)).trans rfl
  have x7 : w2.cell? ⟨w.heap.size, 7, none⟩ = some (.int .u64 x.s.lh) := (cell_of_row _ _ 7 _ _ (0, 0) (below_kept HB1.out cw2)).trans rfl
  have x8 : w2.cell? ⟨w.heap.size, 8, none⟩ = some (.slice s2 n2 c2) := (cell_of_row _ _ 8 _ _ (0, 0) (below_kept HB1.out cw2)).trans rfl
  have x9 : w2.cell? ⟨w.heap.size, 9, none⟩ = some (.int .i64 x.l.v) := (cell_of_row _ _ 9 _ _ (0, 0) (below_kept HB1.out cw2)).trans rfl
  have x10 : w2.cell? ⟨w.heap.size, 10, none⟩ = some (.int .i64 x.l.e) := (cell_of_row _ _ 10 _ _ (0, 0) (below_kept HB1.out cw2)).trans rfl
  have x11 : w2.cell? ⟨w.heap.size, 11, none⟩ = some (.slice s3 n3 c3) := (cell_of_row _ _ 11 _ _ (0, 0) (below_kept HB1.out cw2)).trans rfl
  have x12 : w2.cell? ⟨w.heap.size, 12, none⟩ = some (.slice s4 n4 c4) := (cell_of_row _ _ 12 _ _ (0, 0) (below_kept HB1.out cw2)).trans rfl
  go_wp2_with fail
  refine (toTrustState_any x s0 n0 c0 s1 n1 c1 s2 n2 c2 s3 n3 c3 s4 n4 c4 _ (HR.out _ m2) HTS.out).mono ?_
  rintro e wa ⟨q0, q1, q2, q3, q4, rfl, hoa, hba⟩
  clear x0 x1 x2 x3 x4 x5 x6 x7 x8 x9 x10 x11 x12
  go_wp2_with fail
  refine (specTrusted_any x key at2 now q0 n0 n0 q1 n1 n1 q2 n2 n2 q3 n3 n3 q4 n4 n4 _ hoa).mono ?_
  rintro e wA ⟨bs, rfl, HE, hbA⟩
  have HBS : Hid (bs = true ↔ truP x key at2 now) := HE.out
  have cA : Below w1.heap.size w1 wA := keepT cw2 (keepT hba hbA)
  have mA : Below w.heap.size w wA := keepT hb0 cA
  clear hoa hba hbA HE
  have x0 : wA.cell? ⟨w.heap.size, 0, none⟩ = some (.int .i64 x.r.v) := (cell_of_row _ _ 0 _ _ (0, 0) (below_kept HB1.out cA)).trans rfl
  have x1 : wA.cell? ⟨w.heap.size, 1, none⟩ = some (.int .i64 x.r.e) := (cell_of_row _ _ 1 _ _ (0, 0) (below_kept HB1.out cA)).trans rfl
  have x2 : wA.cell? ⟨w.heap.size, 2, none⟩ = some (.slice s0 n0 c0) := (cell_of_row _ _ 2 _ _ (0, 0) (below_kept HB1.out cA)).trans rfl
  have x3 : wA.cell? ⟨w.heap.size, 3, none⟩ = some (.slice s1 n1 c1) := (cell_of_row _ _ 3 _ _ (0, 0) (below_kept HB1.out cA)).trans rfl
  have x4 : wA.cell? ⟨w.heap.size, 4, none⟩ = some (.int .i64 x.s.v) := (cell_of_row _ _ 4 _ _ (0, 0) (below_kept HB1.out cA)).trans rfl
  have x5 : wA.cell? ⟨w.heap.size, 5, none⟩ = some (.int .i64 x.s.e) := (cell_of_row _ _ 5 _ _ (0, 0) (below_kept HB1.out cA)).trans rfl
  have x6 : wA.cell? ⟨w.heap.size, 6, none⟩ = some (.int .i64 x.s.lv) := (cell_of_row _ _ 6 _ _ (0, 0) (below_kept HB1.out cA)).trans rfl
  have x7 : wA.cell? ⟨w.heap.size, 7, none⟩ = some (.int .u64 x.s.lh) := (cell_of_row _ _ 7 _ _ (0, 0) (below_kept HB1.out cA)).trans rfl
  have x8 : wA.cell? ⟨w.heap.size, 8, none⟩ = some (.slice s2 n2 c2) := (cell_of_row _ _ 8 _ _ (0, 0) (below_kept HB1.out cA)).trans rfl
  have x9 : wA.cell? ⟨w.heap.size, 9, none⟩ = some (.int .i64 x.l.v) := (cell_of_row _ _ 9 _ _ (0, 0) (below_kept HB1.out cA)).trans rfl
  have x10 : wA.cell? ⟨w.heap.size, 10, none⟩ = some (.int .i64 x.l.e) := (cell_of_row _ _ 10 _ _ (0, 0) (below_kept HB1.out cA)).trans rfl
  have x11 : wA.cell? ⟨w.heap.size, 11, none⟩ = some (.slice s3 n3 c3) := (cell_of_row _ _ 11 _ _ (0, 0) (below_kept HB1.out cA)).trans rfl
  have x12 : wA.cell? ⟨w.heap.size, 12, none⟩ = some (.slice s4 n4 c4) := (cell_of_row _ _ 12 _ _ (0, 0) (below_kept HB1.out cA)).trans rfl
  go_wp2_with fail
  refine (toTrustState_any x s0 n0 c0 s1 n1 c1 s2 n2 c2 s3 n3 c3 s4 n4 c4 _ (HR.out _ mA) HTS.out).mono ?_
  rintro e w3 ⟨p0, p1, p2, p3, p4, rfl, ho3, hb3⟩
  clear x0 x1 x2 x3 x4 x5 x6 x7 x8 x9 x10 x11 x12
  obtain ⟨w4, hw4⟩ : ∃ w4, w4 = w3.alloc (.cells #[.int .i64 x.r.v, .int .i64 x.r.e, .slice p0 n0 n0, .slice p1 n1 n1, .int .i64 x.s.v, .int .i64 x.s.e, .int .i64 x.s.lv, .int .u64 x.s.lh, .slice p2 n2 n2, .int .i64 x.l.v, .int .i64 x.l.e, .slice p3 n3 n3, .slice p4 n4 n4] 60) := ⟨_, rfl⟩
  have hb4 : Below w3.heap.size w3 w4 := by rw [hw4]; exact (Below.refl _ _).alloc (Nat.le_refl _) _
  have HBX4 : Hid (w4.heap[w3.heap.size]? = some (.cells #[.int .i64 x.r.v, .int .i64 x.r.e, .slice p0 n0 n0, .slice p1 n1 n1, .int .i64 x.s.v, .int .i64 x.s.e, .int .i64 x.s.lv, .int .u64 x.s.lh, .slice p2 n2 n2, .int .i64 x.l.v, .int .i64 x.l.e, .slice p3 n3 n3, .slice p4 n4 n4] 60 (0, 0))) := by show _ = _; rw [hw4]; exact heap_alloc_new w3 _
  have cw4 : Below w1.heap.size w1 w4 := keepT cA (keepT hb3 hb4)
  have m4 : Below w.heap.size w w4 := keepT hb0 cw4
  have HX4 : Hid (TsR x p0 n0 p1 n1 p2 n2 p3 n3 p4 n4 w4) := ho3.kept hb4
  have HW : Hid (_ = _) := hw4
  clear hw4 ho3 hb3 hb4
  go_upto_region 7 with fail
  rw [← HW.out]
  clear HW
  have x0 : w4.cell? ⟨w3.heap.size, 0, none⟩ = some (.int .i64 x.r.v) := (cell_of_row _ _ 0 _ _ (0, 0) HBX4.out).trans rfl
  have x1 : w4.cell? ⟨w3.heap.size, 1, none⟩ = some (.int .i64 x.r.e) := (cell_of_row _ _ 1 _ _ (0, 0) HBX4.out).trans rfl
  have x2 : w4.cell? ⟨w3.heap.size, 2, none⟩ = some (.slice p0 n0 n0) := (cell_of_row _ _ 2 _ _ (0, 0) HBX4.out).trans rfl
  have x3 : w4.cell? ⟨w3.heap.size, 3, none⟩ = some (.slice p1 n1 n1) := (cell_of_row _ _ 3 _ _ (0, 0) HBX4.out).trans rfl
  have x4 : w4.cell? ⟨w3.heap.size, 4, none⟩ = some (.int .i64 x.s.v) := (cell_of_row _ _ 4 _ _ (0, 0) HBX4.out).trans rfl
  have x5 : w4.cell? ⟨w3.heap.size, 5, none⟩ = some (.int .i64 x.s.e) := (cell_of_row _ _ 5 _ _ (0, 0) HBX4.out).trans rfl
  have x6 : w4.cell? ⟨w3.heap.size, 6, none⟩ = some (.int .i64 x.s.lv) := (cell_of_row _ _ 6 _ _ (0, 0) HBX4.out).trans rfl
  have x7 : w4.cell? ⟨w3.heap.size, 7, none⟩ = some (.int .u64 x.s.lh) := (cell_of_row _ _ 7 _ _ (0, 0) HBX4.out).trans rfl
  have x8 : w4.cell? ⟨w3.heap.size, 8, none⟩ = some (.slice p2 n2 n2) := (cell_of_row _ _ 8 _ _ (0, 0) HBX4.out).trans rfl
  have x9 : w4.cell? ⟨w3.heap.size, 9, none⟩ = some (.int .i64 x.l.v) := (cell_of_row _ _ 9 _ _ (0, 0) HBX4.out).trans rfl
  have x10 : w4.cell? ⟨w3.heap.size, 10, none⟩ = some (.int .i64 x.l.e) := (cell_of_row _ _ 10 _ _ (0, 0) HBX4.out).trans rfl
  have x11 : w4.cell? ⟨w3.heap.size, 11, none⟩ = some (.slice p3 n3 n3) := (cell_of_row _ _ 11 _ _ (0, 0) HBX4.out).trans rfl
  have x12 : w4.cell? ⟨w3.heap.size, 12, none⟩ = some (.slice p4 n4 n4) := (cell_of_row _ _ 12 _ _ (0, 0) HBX4.out).trans rfl
  go_wp2_with fail
  refine (implTrusted_any x key at2 now p0 n0 n0 p1 n1 n1 p2 n2 n2 p3 n3 n3 p4 n4 n4 _ HX4.out).mono ?_
  rintro e w7 ⟨bi, rfl, HE, hb7⟩
  clear x0 x1 x2 x3 x4 x5 x6 x7 x8 x9 x10 x11 x12
  obtain rfl : bi = bs := by
    cases bi <;> cases bs <;> first | rfl | (exact absurd (HBS.out.2 (HE.out.1 rfl)) (by decide)) | (exact absurd (HE.out.2 (HBS.out.1 rfl)) (by decide))
  have t0 : (bi != bi) = false := by simp
  have c7 : Below w1.heap.size w1 w7 := keepT cw4 hb7
  have m7 : Below w.heap.size w w7 := keepT hb0 c7
  have HX7 : Hid (TsR x p0 n0 p1 n1 p2 n2 p3 n3 p4 n4 w7) := HX4.out.kept hb7
  have HBX7 : Hid (w7.heap[w3.heap.size]? = some (.cells #[.int .i64 x.r.v, .int .i64 x.r.e, .slice p0 n0 n0, .slice p1 n1 n1, .int .i64 x.s.v, .int .i64 x.s.e, .int .i64 x.s.lv, .int .u64 x.s.lh, .slice p2 n2 n2, .int .i64 x.l.v, .int .i64 x.l.e, .slice p3 n3 n3, .slice p4 n4 n4] 60 (0, 0))) := below_kept HBX4.out hb7
  have HBG7 : Hid (w7.heap[w.heap.size]? = some (.cells #[.int .i64 x.r.v, .int .i64 x.r.e, .slice s0 n0 c0, .slice s1 n1 c1, .int .i64 x.s.v, .int .i64 x.s.e, .int .i64 x.s.lv, .int .u64 x.s.lh, .slice s2 n2 c2, .int .i64 x.l.v, .int .i64 x.l.e, .slice s3 n3 c3, .slice s4 n4 c4] 56 (0, 0))) := below_kept HB1.out c7
  have HBB : w7.heap.size ≤ w7.heap.size := Nat.le_refl _
  clear HE HBS hb7 HX4 HBX4
  go_upto_region 10 with fail
  refine wp_region_ri (tl10 x s0 n0 c0 s1 n1 c1 s2 n2 c2 s3 n3 c3 s4 n4 c4 p0 p1 p2 p3 p4 w.heap.size w3.heap.size (w7.heap.size)) [34, 35, 36, 37, 38] (w7.heap.size) (fun a0 => a0.tmps.size = 39 ∧ aT a0 4 = .pointer (some ⟨w.heap.size, 0, none⟩) ∧ aT a0 11 = .pointer (some ⟨w3.heap.size, 0, none⟩)) (by kernel_rfl) rfl (by kernel_rfl) rfl ⟨rfl, rfl, rfl⟩ (tl10_stb x s0 n0 c0 s1 n1 c1 s2 n2 c2 s3 n3 c3 s4 n4 c4 p0 p1 p2 p3 p4 w.heap.size w3.heap.size (w7.heap.size)) ?_ ?_ ?_
  · intro k hk hk2
    match k, hk, hk2 with
    | 5, _, _ => exact HBG7.out
    | 6, _, _ => exact HBX7.out
    | 0, hk, _ => exact absurd hk (by show ¬ (5 ≤ 0); omega)
    | 1, hk, _ => exact absurd hk (by show ¬ (5 ≤ 1); omega)
    | 2, hk, _ => exact absurd hk (by show ¬ (5 ≤ 2); omega)
    | 3, hk, _ => exact absurd hk (by show ¬ (5 ≤ 3); omega)
    | 4, hk, _ => exact absurd hk (by show ¬ (5 ≤ 4); omega)
    | k + 7, _, hk2 => exact absurd hk2 (by show ¬ (k + 7 < 7); omega)
  · rintro a0 ⟨hz, g4, g11⟩
    refine StepsRI.cons ?_ (StepsRI.cons ?_ (StepsRI.cons ?_ (StepsRI.cons ?_ (StepsRI.cons ?_ (StepsRI.nil)))))
    · intro lQ b W hI hUN hED KQ hKQ
      have hg := (hI.vot 6 (of_decide_eq_true rfl) (of_decide_eq_true rfl) rfl)
      refine wp_load_row 60 _ rfl (w3.heap.size) ((hI.fr.same 11 (by decide)).trans g11) 60 #[.int .i64 x.r.v, .int .i64 x.r.e, .slice p0 n0 n0, .slice p1 n1 n1, .int .i64 x.s.v, .int .i64 x.s.e, .int .i64 x.s.lv, .int .u64 x.s.lh, .slice p2 n2 n2, .int .i64 x.l.v, .int .i64 x.l.e, .slice p3 n3 n3, .slice p4 n4 n4] (0, 0) _ hg Tryz.underlying60 rfl (by kernel_rfl) ?_
      exact hKQ.out _ _ (hI.put 0 34 rfl rfl (by rw [hz]; decide) rfl hUN rfl HBB (tl10_stb x s0 n0 c0 s1 n1 c1 s2 n2 c2 s3 n3 c3 s4 n4 c4 p0 p1 p2 p3 p4 w.heap.size w3.heap.size (w7.heap.size)) (Below.refl _ _) rfl)
    · intro lQ b W hI hUN hED KQ hKQ
      have hg := (hI.vot 5 (of_decide_eq_true rfl) (of_decide_eq_true rfl) rfl)
      refine wp_load_row 56 _ rfl (w.heap.size) ((hI.fr.same 4 (by decide)).trans g4) 56 #[.int .i64 x.r.v, .int .i64 x.r.e, .slice s0 n0 c0, .slice s1 n1 c1, .int .i64 x.s.v, .int .i64 x.s.e, .int .i64 x.s.lv, .int .u64 x.s.lh, .slice s2 n2 c2, .int .i64 x.l.v, .int .i64 x.l.e, .slice s3 n3 c3, .slice s4 n4 c4] (0, 0) _ hg Tryz.underlying56 rfl (by kernel_rfl) ?_
      exact hKQ.out _ _ (hI.put 1 35 rfl rfl (by rw [hz]; decide) rfl hUN rfl HBB (tl10_stb x s0 n0 c0 s1 n1 c1 s2 n2 c2 s3 n3 c3 s4 n4 c4 p0 p1 p2 p3 p4 w.heap.size w3.heap.size (w7.heap.size)) (Below.refl _ _) rfl)
    · intro lQ b W hI hUN hED KQ hKQ
      have f0 := hI.got 1 (of_decide_eq_true rfl) (edge hED 1 (by kernel_rfl)) rfl
      replace f0 : aT b 35 = .agg #[.int .i64 x.r.v, .int .i64 x.r.e, .slice s0 n0 c0, .slice s1 n1 c1, .int .i64 x.s.v, .int .i64 x.s.e, .int .i64 x.s.lv, .int .u64 x.s.lh, .slice s2 n2 c2, .int .i64 x.l.v, .int .i64 x.l.e, .slice s3 n3 c3, .slice s4 n4 c4] := f0
      refine opw_call 16 #[.tmp 35] _ _ _ rfl Tryz.func16 (by kernel_rfl) rfl #[.agg #[.int .i64 x.r.v, .int .i64 x.r.e, .slice s0 n0 c0, .slice s1 n1 c1, .int .i64 x.s.v, .int .i64 x.s.e, .int .i64 x.s.lv, .int .u64 x.s.lh, .slice s2 n2 c2, .int .i64 x.l.v, .int .i64 x.l.e, .slice s3 n3 c3, .slice s4 n4 c4]] (by simp [ev, f0]) ?_
      refine (toTrustState_any x s0 n0 c0 s1 n1 c1 s2 n2 c2 s3 n3 c3 s4 n4 c4 W (HR.out _ (keepT m7 hI.bel)) HTS.out).mono ?_
      rintro e W2 ⟨q0, q1, q2, q3, q4, rfl, ho, hb⟩
      exact ⟨_, rfl, hKQ.out _ _ (hI.put 2 36 rfl rfl (by rw [hz]; decide) rfl hUN rfl HBB (tl10_stb x s0 n0 c0 s1 n1 c1 s2 n2 c2 s3 n3 c3 s4 n4 c4 p0 p1 p2 p3 p4 w.heap.size w3.heap.size (w7.heap.size)) hb ⟨q0, q1, q2, q3, q4, rfl, ho⟩)⟩
    · intro lQ b W hI hUN hED KQ hKQ
      have f0 := hI.got 0 (of_decide_eq_true rfl) (edge hED 0 (by kernel_rfl)) rfl
      replace f0 : aT b 34 = .agg #[.int .i64 x.r.v, .int .i64 x.r.e, .slice p0 n0 n0, .slice p1 n1 n1, .int .i64 x.s.v, .int .i64 x.s.e, .int .i64 x.s.lv, .int .u64 x.s.lh, .slice p2 n2 n2, .int .i64 x.l.v, .int .i64 x.l.e, .slice p3 n3 n3, .slice p4 n4 n4] := f0
      have f1 := hI.got 2 (of_decide_eq_true rfl) (edge hED 2 (by kernel_rfl)) rfl
      obtain ⟨q0, q1, q2, q3, q4, f1, o1_0⟩ := f1
      replace f1 : aT b 36 = .agg #[.int .i64 x.r.v, .int .i64 x.r.e, .slice q0 n0 n0, .slice q1 n1 n1, .int .i64 x.s.v, .int .i64 x.s.e, .int .i64 x.s.lv, .int .u64 x.s.lh, .slice q2 n2 n2, .int .i64 x.l.v, .int .i64 x.l.e, .slice q3 n3 n3, .slice q4 n4 n4] := f1
      refine opw_call 18 #[.tmp 34, .tmp 36] _ _ _ rfl Tryz.func18 (by kernel_rfl) rfl #[.agg #[.int .i64 x.r.v, .int .i64 x.r.e, .slice p0 n0 n0, .slice p1 n1 n1, .int .i64 x.s.v, .int .i64 x.s.e, .int .i64 x.s.lv, .int .u64 x.s.lh, .slice p2 n2 n2, .int .i64 x.l.v, .int .i64 x.l.e, .slice p3 n3 n3, .slice p4 n4 n4], .agg #[.int .i64 x.r.v, .int .i64 x.r.e, .slice q0 n0 n0, .slice q1 n1 n1, .int .i64 x.s.v, .int .i64 x.s.e, .int .i64 x.s.lv, .int .u64 x.s.lh, .slice q2 n2 n2, .int .i64 x.l.v, .int .i64 x.l.e, .slice q3 n3 n3, .slice q4 n4 n4]] (by simp [ev, f0, f1]) ?_
      refine (eqTrustState_same x p0 n0 n0 p1 n1 n1 p2 n2 n2 p3 n3 n3 p4 n4 n4 q0 n0 q1 n1 q2 n2 q3 n3 q4 n4 W (HX7.out.kept hI.bel) o1_0).mono ?_
      rintro e W2 ⟨rfl, hb⟩
      exact ⟨_, rfl, hKQ.out _ _ (hI.put 3 37 rfl rfl (by rw [hz]; decide) rfl hUN rfl HBB (tl10_stb x s0 n0 c0 s1 n1 c1 s2 n2 c2 s3 n3 c3 s4 n4 c4 p0 p1 p2 p3 p4 w.heap.size w3.heap.size (w7.heap.size)) hb rfl)⟩
    · intro lQ b W hI hUN hED KQ hKQ
      have f : aT b 37 = .bool true := hI.got 3 (of_decide_eq_true rfl) (edge hED 3 (by kernel_rfl)) rfl
      exact opw_not _ 37 rfl true f (hKQ.out _ _ (hI.put 4 38 rfl rfl (by rw [hz]; decide) rfl hUN rfl HBB (tl10_stb x s0 n0 c0 s1 n1 c1 s2 n2 c2 s3 n3 c3 s4 n4 c4 p0 p1 p2 p3 p4 w.heap.size w3.heap.size (w7.heap.size)) (Below.refl _ _) rfl))
  · intro b W hf hb F
    have e38 : aT b 38 = .bool false := F 4 (of_decide_eq_true rfl) rfl
    rw [hf.eq]
    simp only [puts, Act.put, List.setIfInBounds_toArray, List.set_cons_zero, List.set_cons_succ, e38]
    clear hf F e38
    generalize aT b = AT
    clear b
    have mW : Below w.heap.size w W := keepT m7 hb
    go_wp2
    go_ret
    exact ⟨rfl, mW⟩

end Go.Proofs.YtglpbgebcpijaaaGreat

