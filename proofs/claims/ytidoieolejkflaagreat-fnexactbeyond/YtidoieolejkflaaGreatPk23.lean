/-
  A list of ways under way into which those of another list are put, one by one.
  slices.Index, slices.Contains at numbers; impl.realAreas: their contracts.
  A heap in a row, as values: what sifting up and down makes of it.
  impl.wayHeap: its methods' contracts.
  Calls through an interface that holds a pointer: which function, with which receiver.
-/
import Derived.Test.YtidoieolejkflaaGreatPk22
import Derived.Test.YtidoieolejkflaaGreatPk15
import Derived.Test.YtidoieolejkflaaGreatPk7
import Derived.Test.YtidoieolejkflaaGreatPk19
import Derived.Test.YtidoieolejkflaaGreatPk4
import Derived.Test.YtidoieolejkflaaGreatPk1
import Derived.Test.YtidoieolejkflaaGreatPk13
import Derived.Test.YtidoieolejkflaaGreatPk12
import Derived.Test.YtidoieolejkflaaGreatPk5
import Derived.Handy
namespace Go.Proofs.YtidoieolejkflaaGreat
open Go.RowKit

/-- the list x, qs is under way (its rows from lo on, in none of loR .. hiR); the ways ws (in loW .. hiW) from j on are still to be put in -/
structure PutSt (W : World) (lo loR hiR loW hiW : Nat) (S : Int → WayD → Prop) (x : Value) (qs : List WP) (u : Value) (ws : List WP) (j : Nat) : Prop where
  own : WaysOwn W lo W.heap.size x qs
  best : IsBest S (fstsW qs)
  offR : Off x loR hiR
  offW : Off x loW hiW
  from_ : WaysOwn W loW hiW u ws
  lw : lo ≤ loW
  wide : loW ≤ hiW
  hW : hiW ≤ W.heap.size
  hR : hiR ≤ loW
  apart : ∀ p ∈ qs, ∀ q ∈ ws.drop j, ApartW p q

section
variable {W : World} {lo loR hiR loW hiW : Nat} {S : Int → WayD → Prop} {x u : Value} {qs ws : List WP} {j : Nat}

theorem PutSt.below {W' : World} (h : PutSt W lo loR hiR loW hiW S x qs u ws j) (hb : Below W.heap.size W W') : PutSt W' lo loR hiR loW hiW S x qs u ws j :=
  { h with
    own := (h.own.below hb (Nat.le_refl _)).wide (Nat.le_refl _) hb.size
    from_ := h.from_.below hb h.hW
    hW := Nat.le_trans h.hW hb.size }

theorem PutSt.hop (h : PutSt W lo loR hiR loW hiW S x qs u ws j) {r : WP} (hr : ws[j]? = some r) : HopOwn W lo W.heap.size r := (h.from_.nears r (List.mem_of_getElem? hr)).wide h.lw h.hW

theorem drop_head {r : WP} (hr : ws[j]? = some r) : ws.drop j = r :: ws.drop (j + 1) := by
  obtain ⟨h1, e1⟩ := List.getElem?_eq_some_iff.1 hr
  rw [List.drop_eq_getElem_cons h1, e1]

theorem PutSt.apartR (h : PutSt W lo loR hiR loW hiW S x qs u ws j) {r : WP} (hr : ws[j]? = some r) : ∀ p ∈ qs, ApartW p r := fun p hp => h.apart p hp r (by rw [drop_head hr]; exact List.mem_cons_self)

theorem PutSt.good (h : PutSt W lo loR hiR loW hiW S x qs u ws j) (hS : ∀ to w, S to w → GoodW w ∧ w.to = to) : qs.length ≤ 6 ∧ ∀ p ∈ qs, p.1.hops.length ≤ 6 := by
  have hg := h.best.good hS
  refine ⟨?_, fun p hp => (hg p.1 (by simp only [fstsW, List.mem_map]; exact ⟨p, hp, rfl⟩)).len⟩
  have := asc_tos h.best.1 (fun w hw => (hg w hw).node)
  simpa [fstsW] using this

/-- passing one by -/
theorem PutSt.pass (h : PutSt W lo loR hiR loW hiW S x qs u ws j) {r : WP} (hr : ws[j]? = some r) {T : Int → WayD → Prop} (hT : ∀ to w, S to w ↔ T to w) : PutSt W lo loR hiR loW hiW T x qs u ws (j + 1) :=
  { h with
    best := h.best.congr hT
    apart := fun p hp q hq => h.apart p hp q (by rw [drop_head hr]; exact List.mem_cons_of_mem _ hq) }

/-- putting one in -/
theorem PutSt.put {W' : World} {x' : Value} {qs' : List WP} (h : PutSt W lo loR hiR loW hiW S x qs u ws j) {r : WP} (hr : ws[j]? = some r) (hS : ∀ to w, S to w → GoodW w ∧ w.to = to) (hg : GoodW r.1) {T : Int → WayD → Prop} (hT : ∀ to w, (S to w ∨ (w = r.1 ∧ r.1.to = to)) ↔ T to w)
    (hp : PutD (fstsW qs) r.1 (fstsW qs')) (ho : WaysOwn W' lo W'.heap.size x' qs') (hf : FromPut W.heap.size qs r qs') (hn : ∀ b, x'.ownBlock = some b → x.ownBlock = some b ∨ W.heap.size ≤ b) (hgr : W.grownBy W' x.ownBlock) : PutSt W' lo loR hiR loW hiW T x' qs' u ws (j + 1) where
  own := ho
  best := (h.best.put togOk_I hS hg hp.1 hp.2).congr hT
  offR := h.offR.next hn (by have := h.hR; have := h.wide; have := h.hW; omega)
  offW := h.offW.next hn h.hW
  from_ := h.from_.keep (h.offW.kept hgr)
  lw := h.lw
  wide := h.wide
  hW := Nat.le_trans h.hW hgr.size
  hR := h.hR
  apart := by
    intro p hp q hq
    have hq' : q ∈ ws.drop j := by rw [drop_head hr]; exact List.mem_cons_of_mem _ hq
    rcases hf p hp with ⟨p', hp', e⟩ | e | e
    · have h1 := h.apart p' hp' q hq'
      intro k hk
      rw [e] at hk
      exact h1 k hk
    · intro k hk
      rw [e] at hk
      have hpw := h.from_.apart
      rw [← List.take_append_drop j ws, List.pairwise_append] at hpw
      have h2 := hpw.2.1
      rw [drop_head hr] at h2
      exact (List.pairwise_cons.1 h2).1 q hq k hk
    · intro k hk he
      have h1 := e k hk
      have h2 := (h.from_.nears q (List.mem_of_mem_drop hq')).2 k he
      have := h.hW
      omega

/-- beginning with a new list -/
theorem PutSt.start {W0 : World} (ho : WaysOwn W0 lo W0.heap.size x qs) (hb : IsBest S (fstsW qs)) (hoff : Off x loR hiR) (hR : hiR ≤ W0.heap.size) (hlo : lo ≤ W0.heap.size) (hbl : Below W0.heap.size W0 W) (hf : WaysOwn W W0.heap.size W.heap.size u ws) : PutSt W lo loR hiR W0.heap.size W.heap.size S x qs u ws 0 where
  own := (ho.below hbl (Nat.le_refl _)).wide (Nat.le_refl _) hbl.size
  best := hb
  offR := hoff
  offW := fun b hx => .inl (ho.top b hx)
  from_ := hf
  lw := hlo
  wide := hbl.size
  hW := Nat.le_refl _
  hR := hR
  apart := by
    intro p hp q hq k hk he
    have h1 := (ho.nears p hp).2 k hk
    have h2 := ((hf.nears q (List.mem_of_mem_drop hq)).1.lt k he).1
    omega
end
end Go.Proofs.YtidoieolejkflaaGreat
namespace Go.Proofs.YtidoieolejkflaaGreat
open Go.RowKit

set_option linter.unusedSimpArgs false

theorem not_take {l : List Int} {k : Nat} {z y : Int} (h : l[k]? = some y) (hn : z ∉ l.take k) (hz : z ≠ y) : z ∉ l.take (k + 1) := by
  obtain ⟨hk, e⟩ := List.getElem?_eq_some_iff.1 h
  rw [List.take_succ_eq_append_getElem hk, e]
  intro hm
  rcases List.mem_append.1 hm with h1 | h1
  · exact hn h1
  · exact hz (by simpa using h1)

set_option maxRecDepth 100000 in
set_option maxHeartbeats 1000000 in
theorem index_any (v : Value) (l : List Int) (z : Int) (w : World) (hn : l.length ≤ 1048576) (hv : HopsAt w v l w.heap.size) :
    Calls Tryz.prog 140 #[v, .int .i64 z] w fun e w' => ∃ r : Int, e = .returned (.int .i64 r) ∧ (0 ≤ r ↔ z ∈ l) ∧ w = w' := by
  obtain ⟨a, cap, rfl⟩ := hv.shape
  have HV := hide hv
  clear hv
  go_enter Tryz.func140, Tryz.ntmps140
  go_wp2
  go_loop [8] (fun i => ∃ k : Nat, k ≤ l.length ∧ i = .int .i64 k ∧ Hid (z ∉ l.take k)) (fun i => l.length - (intOf i).toNat)
  case atStart => exact ⟨0, by omega, rfl, hide (by simp)⟩
  case round =>
    obtain ⟨k, hk, rfl, HNO⟩ := hrel
    by_cases hlt : k < l.length
    · obtain ⟨y, hy⟩ : ∃ y, l[k]? = some y := ⟨l[k], List.getElem?_eq_getElem hlt⟩
      obtain ⟨b, off, cap', hve, hbb, c0⟩ := HV.out.cell k y hy
      cases hve
      have hki : (0 : Int) ≤ (k : Int) := by omega
      have hkj : (k : Int) < (l.length : Int) := by omega
      by_cases hzy : z = y
      · have HM := hide (show (0 : Int) ≤ (k : Int) ↔ z ∈ l from ⟨fun _ => by rw [hzy]; exact List.mem_of_getElem? hy, fun _ => by omega⟩)
        have hd : (z == y) = true := by simpa using hzy
        clear hy hzy
        go_wp2
        go_ret
        exact ⟨_, rfl, HM.out, rfl⟩
      · have HN := hide (not_take hy HNO.out hzy)
        have hd : (z == y) = false := by simpa using hzy
        clear hy hzy
        go_wp2
        go_round
        case rel => exact ⟨k + 1, by omega, by go_num, HN⟩
        case measure => simp [intOf]; omega
    · have HM := hide (show (0 : Int) ≤ -1 ↔ z ∈ l from ⟨fun h0 => by omega, fun hm => by
        have h := HNO.out
        rw [List.take_of_length_le (by omega)] at h
        exact absurd hm h⟩)
      go_wp2
      go_ret
      exact ⟨_, rfl, HM.out, rfl⟩

theorem ret_boolP {a b : Prop} [Decidable a] [Decidable b] (h : a ↔ b) : Ending.returned (.bool (decide a)) = .returned (.bool (decide b)) := by rw [decide_eq_decide.2 h]

set_option maxRecDepth 100000 in
set_option maxHeartbeats 1000000 in
theorem contains_any (v : Value) (l : List Int) (z : Int) (w : World) (hn : l.length ≤ 1048576) (hv : HopsAt w v l w.heap.size) :
    Calls Tryz.prog 112 #[v, .int .i64 z] w fun e w' => e = .returned (.bool (decide (z ∈ l))) ∧ w = w' := by
  obtain ⟨a, cap, rfl⟩ := hv.shape
  have HI := hide (index_any _ l z w hn hv)
  clear hv
  go_enter Tryz.func112, Tryz.ntmps112
  go_wp2_with fail
  refine HI.out.mono ?_
  rintro e w1 ⟨r, rfl, hr, rfl⟩
  have HR := hide hr
  clear hr
  go_wp2
  go_ret
  exact ⟨ret_boolP HR.out, rfl⟩

/-- the areas below k that a list has -/
def realT (l : List Int) : Nat → List Int
  | 0 => []
  | k + 1 => realT l k ++ (if decide ((k : Int) ∈ l) then [(k : Int)] else [])

theorem realT_mem {l : List Int} {x : Int} : ∀ {k : Nat}, x ∈ realT l k ↔ x ∈ l ∧ 0 ≤ x ∧ x < (k : Int)
  | 0 => by simp [realT] <;> omega
  | k + 1 => by
    unfold realT
    rw [List.mem_append, realT_mem]
    constructor
    · rintro (⟨h1, h2, h3⟩ | h)
      · exact ⟨h1, h2, by omega⟩
      · split at h
        · rename_i h0
          have : x = (k : Int) := by simpa using h
          subst this
          exact ⟨by simpa using h0, by omega, by omega⟩
        · simp at h
    · rintro ⟨h1, h2, h3⟩
      by_cases e : x = (k : Int)
      · subst e
        right
        rw [if_pos (by simpa using h1)]
        simp
      · exact .inl ⟨h1, h2, by omega⟩

theorem realT_len (l : List Int) : ∀ k : Nat, (realT l k).length ≤ k
  | 0 => by simp [realT]
  | k + 1 => by
    have := realT_len l k
    unfold realT
    rw [List.length_append]
    split <;> simp <;> omega

set_option maxRecDepth 100000 in
set_option maxHeartbeats 1000000 in
theorem real_any (v : Value) (l : List Int) (hi : Nat) (w : World) (hn : l.length ≤ 1048576) (hv : HopsAt w v l hi) (hhi : hi ≤ w.heap.size) :
    Calls Tryz.prog 61 #[v] w fun e w' => ∃ x, e = .returned x ∧ IntsOwn w' w.heap.size w'.heap.size x (realT l 3) ∧ Below w.heap.size w w' := by
  obtain ⟨a, cap, rfl⟩ := hv.shape
  have HC := hide (fun (z : Int) (W : World) (hb : Below w.heap.size w W) => contains_any (.slice a l.length cap) l z W hn (RowAt.more (RowAt.later hv hb hhi) (Nat.le_trans hhi hb.size)))
  clear hv
  go_enter Tryz.func61, Tryz.ntmps61
  go_wp2
  go_loopw [5, 3] (fun i o wr => ∃ (k : Nat) (x : Value), k ≤ 3 ∧ i = .int .i64 (k : Int) ∧ o = x ∧ wr.ownsRow w.heap.size 3 1 x (realT l k).length (flat intE (realT l k)) ∧ Below w.heap.size w wr) (fun i _ _ => 4 - (intOf i).toNat)
  case atStart => exact ⟨0, _, by omega, rfl, rfl, World.ownsRow_nil _ _ _ _, Below.refl _ _⟩
  case round =>
    obtain ⟨k, x, hk, rfl, rfl, hown, hb⟩ := hrel
    obtain ⟨xa, xc, rfl⟩ := owns_lenS hown
    have hsz := hb.size
    have hrl := realT_len l k
    have OW := hide hown
    clear hown
    by_cases hlt : k < 3
    · have hk3 : (k : Int) < 3 := by omega
      obtain ⟨D, hD⟩ : ∃ D, D = decide ((k : Int) ∈ l) := ⟨_, rfl⟩
      have HST := hide (show realT l (k + 1) = realT l k ++ (if D then [(k : Int)] else []) by rw [hD]; rfl)
      have HCC := hide (HC.out (k : Int) wr hb)
      rw [← hD] at HCC
      clear hD
      obtain ⟨C, hC⟩ : ∃ C, C = realT l k := ⟨_, rfl⟩
      rw [← hC] at OW HST hrl ⊢
      clear hC
      go_wp2_with fail
      refine HCC.out.mono ?_
      rintro e w1 ⟨rfl, rfl⟩
      cases D
      · have HOW := hide (show wr.ownsRow w.heap.size 3 1 (.slice xa C.length xc) (realT l (k + 1)).length (flat intE (realT l (k + 1))) by rw [HST.out]; simpa using OW.out)
        go_wp2
        go_roundw
        case rel => exact ⟨k + 1, _, by omega, by go_num, rfl, HOW.out, hb⟩
        case measure => simp [intOf]; omega
      · go_wp2_with (first
          | (at_builtin; refine append_struct5 intE_len (by omega) (by omega) _ rfl _ _ 34 rfl w.heap.size 3 Tryz.underlying34 (.int .i64 0) rfl Tryz.info3 _ C (k : Int) (intE_one _) rfl (OW.out.alloc _) ⟨wr.heap.size, 0, none⟩ 1 rfl (news_struct (cs := intE (k : Int))) (by omega) (by simp; omega) ?_))
        intro v' w4 hown' hgrow
        have B4 : Below w.heap.size w w4 := (hb.alloc hsz _).grown hgrow (by simp; omega) (fun j hj => (OW.out.lt j hj).1)
        have O4 := hide (show w4.ownsRow w.heap.size 3 1 v' (realT l (k + 1)).length (flat intE (realT l (k + 1))) by rw [HST.out]; simpa using hown')
        obtain ⟨va, vc, rfl⟩ := owns_lenS hown'
        clear hown' hgrow
        go_wp2
        go_roundw
        case rel => exact ⟨k + 1, _, by omega, by go_num, rfl, O4.out, B4⟩
        case measure => simp [intOf]; omega
    · have hk3 : ¬ (k : Int) < 3 := by omega
      have hkk : k = 3 := by omega
      subst hkk
      have HE := hide (IntsOwn.of OW.out)
      obtain ⟨C, hC⟩ : ∃ C, C = realT l 3 := ⟨_, rfl⟩
      rw [← hC] at HE ⊢
      have HCC := hide hC
      clear hC OW
      go_wp2
      go_ret
      exact ⟨_, rfl, by rw [← HCC.out]; exact HE.out, hb⟩
end Go.Proofs.YtidoieolejkflaaGreat
namespace Go.Proofs.YtidoieolejkflaaGreat

def par (i : Nat) : Nat := (i - 1) / 2

def swapF (q : Nat → Nat) (i j x : Nat) : Nat := if x = i then q j else if x = j then q i else q x

def IsHeap (c : Nat → Int) (q : Nat → Nat) (n : Nat) : Prop := ∀ i, 0 < i → i < n → c (q (par i)) ≤ c (q i)

structure UpInv (c : Nat → Int) (q : Nat → Nat) (n j : Nat) : Prop where
  all : ∀ i, 0 < i → i < n → i ≠ j → c (q (par i)) ≤ c (q i)
  kids : ∀ i, 0 < i → i < n → par i = j → 0 < j → c (q (par j)) ≤ c (q i)

structure DownInv (c : Nat → Int) (q : Nat → Nat) (n i : Nat) : Prop where
  all : ∀ k, 0 < k → k < n → par k ≠ i → c (q (par k)) ≤ c (q k)
  kids : ∀ k, 0 < k → k < n → par k = i → 0 < i → c (q (par i)) ≤ c (q k)

theorem par_lt {i : Nat} (h : 0 < i) : par i < i := by unfold par; omega

theorem up_stop {c : Nat → Int} {q : Nat → Nat} {n j : Nat} (h : UpInv c q n j) (hs : j = 0 ∨ ¬ c (q j) < c (q (par j))) : IsHeap c q n := by
  intro i h0 hn
  by_cases e : i = j
  · subst e
    rcases hs with hs | hs
    · omega
    · omega
  · exact h.all i h0 hn e

theorem up_step {c : Nat → Int} {q : Nat → Nat} {n j : Nat} (h : UpInv c q n j) (hj : 0 < j) (hn : j < n) (hlt : c (q j) < c (q (par j))) : UpInv c (swapF q (par j) j) n (par j) := by
  have hp := par_lt hj
  obtain ⟨p, hpe⟩ : ∃ p, p = par j := ⟨_, rfl⟩
  rw [← hpe] at hlt hp ⊢
  constructor
  · intro i h0 hi hne
    have hpi := par_lt h0
    unfold swapF
    by_cases e1 : i = j
    · subst e1
      rw [if_neg (by omega : ¬ i = p), if_pos rfl, if_pos hpe.symm]
      omega
    · rw [if_neg hne, if_neg e1]
      have h1 := h.all i h0 hi e1
      by_cases e2 : par i = p
      · rw [if_pos e2]
        rw [e2] at h1
        omega
      · rw [if_neg e2]
        by_cases e3 : par i = j
        · rw [if_pos e3]
          have := h.kids i h0 hi e3 hj
          rw [← hpe] at this
          exact this
        · rw [if_neg e3]; exact h1
  · intro i h0 hi hpar hp0
    have hpi := par_lt h0
    have hpp := par_lt hp0
    have hA := h.all p hp0 (by omega) (by omega)
    unfold swapF
    rw [if_neg (by omega : ¬ par p = p), if_neg (by omega : ¬ par p = j)]
    by_cases e1 : i = j
    · rw [if_neg (by omega : ¬ i = p), if_pos e1]; exact hA
    · rw [if_neg (by omega : ¬ i = p), if_neg e1]
      have := h.all i h0 hi e1
      rw [hpar] at this
      omega

theorem down_stop {c : Nat → Int} {q : Nat → Nat} {n i : Nat} (h : DownInv c q n i) (hs : ∀ k, 0 < k → k < n → par k = i → c (q i) ≤ c (q k)) : IsHeap c q n := by
  intro k h0 hn
  by_cases e : par k = i
  · rw [e]; exact hs k h0 hn e
  · exact h.all k h0 hn e

theorem par_kids {k i : Nat} (h0 : 0 < k) (h : par k = i) : k = 2 * i + 1 ∨ k = 2 * i + 2 := by unfold par at h; omega

theorem down_step {c : Nat → Int} {q : Nat → Nat} {n i j : Nat} (h : DownInv c q n i) (hj : 0 < j) (hn : j < n) (hp : par j = i) (hlt : c (q j) < c (q i)) (hmin : ∀ k, 0 < k → k < n → par k = i → c (q j) ≤ c (q k)) : DownInv c (swapF q i j) n j := by
  have hij := par_lt hj
  rw [hp] at hij
  constructor
  · intro k h0 hk hne
    have hpk := par_lt h0
    unfold swapF
    by_cases e1 : k = i
    · subst e1
      rw [if_pos rfl, if_neg (by omega : ¬ par k = k), if_neg hne]
      exact h.kids j hj hn hp h0
    · rw [if_neg e1]
      by_cases e2 : k = j
      · subst e2
        rw [if_pos rfl, if_pos hp]
        omega
      · rw [if_neg e2]
        by_cases e3 : par k = i
        · rw [if_pos e3]; exact hmin k h0 hk e3
        · rw [if_neg e3, if_neg hne]; exact h.all k h0 hk e3
  · intro k h0 hk hpk hj0
    have hpk2 := par_lt h0
    unfold swapF
    rw [hp, if_pos rfl, if_neg (by omega : ¬ k = i), if_neg (by omega : ¬ k = j)]
    have := h.all k h0 hk (by omega)
    rw [hpk] at this
    exact this

theorem heap_root {c : Nat → Int} {q : Nat → Nat} {n : Nat} (h : IsHeap c q n) : ∀ (m i : Nat), i ≤ m → i < n → c (q 0) ≤ c (q i)
  | 0, i, hm, _ => by rw [show i = 0 by omega]; exact Int.le_refl _
  | m + 1, i, hm, hn => by
    by_cases e : i = 0
    · rw [e]; exact Int.le_refl _
    · have h1 := h i (by omega) hn
      have h2 := par_lt (i := i) (by omega)
      have h3 := heap_root h m (par i) (by omega) (by omega)
      omega

/-- the same things in the first n places, in another order; behind them nothing is turned -/
structure Shuf (q q' : Nat → Nat) (n : Nat) : Prop where
  into : ∀ i, i < n → ∃ j, j < n ∧ q' i = q j
  onto : ∀ j, j < n → ∃ i, i < n ∧ q' i = q j
  inj : (∀ i j, i < n → j < n → q i = q j → i = j) → (∀ i j, i < n → j < n → q' i = q' j → i = j)
  rest : ∀ x, n ≤ x → q' x = q x

theorem Shuf.refl (q : Nat → Nat) (n : Nat) : Shuf q q n := ⟨fun i h => ⟨i, h, rfl⟩, fun j h => ⟨j, h, rfl⟩, fun h => h, fun _ _ => rfl⟩

theorem Shuf.trans {q q' q'' : Nat → Nat} {n : Nat} (a : Shuf q q' n) (b : Shuf q' q'' n) : Shuf q q'' n := by
  refine ⟨fun i h => ?_, fun j h => ?_, fun h => b.inj (a.inj h), fun x hx => (b.rest x hx).trans (a.rest x hx)⟩
  · obtain ⟨j, hj, e⟩ := b.into i h
    obtain ⟨k, hk, e2⟩ := a.into j hj
    exact ⟨k, hk, e.trans e2⟩
  · obtain ⟨i, hi, e⟩ := a.onto j h
    obtain ⟨k, hk, e2⟩ := b.onto i hi
    exact ⟨k, hk, e2.trans e⟩

theorem swapF_cases (q : Nat → Nat) (i j x : Nat) : (x = i ∧ swapF q i j x = q j) ∨ (x = j ∧ swapF q i j x = q i) ∨ (x ≠ i ∧ x ≠ j ∧ swapF q i j x = q x) := by
  unfold swapF
  by_cases e : x = i
  · exact .inl ⟨e, if_pos e⟩
  · rw [if_neg e]
    by_cases e2 : x = j
    · exact .inr (.inl ⟨e2, if_pos e2⟩)
    · exact .inr (.inr ⟨e, e2, if_neg e2⟩)

theorem Shuf.swap (q : Nat → Nat) {n i j : Nat} (hi : i < n) (hj : j < n) : Shuf q (swapF q i j) n := by
  refine ⟨fun x hx => ?_, fun x hx => ?_, fun h x y hx hy e => ?_, fun x hx => ?_⟩
  · rcases swapF_cases q i j x with ⟨_, e⟩ | ⟨_, e⟩ | ⟨_, _, e⟩
    · exact ⟨j, hj, e⟩
    · exact ⟨i, hi, e⟩
    · exact ⟨x, hx, e⟩
  · by_cases e1 : x = i
    · refine ⟨j, hj, ?_⟩
      subst e1
      rcases swapF_cases q x j j with ⟨e2, e⟩ | ⟨_, e⟩ | ⟨_, e2, _⟩
      · rw [e, e2]
      · exact e
      · exact absurd rfl e2
    · by_cases e3 : x = j
      · refine ⟨i, hi, ?_⟩
        subst e3
        rcases swapF_cases q i x i with ⟨_, e⟩ | ⟨e2, e⟩ | ⟨e2, _, _⟩
        · exact e
        · rw [e, e2]
        · exact absurd rfl e2
      · refine ⟨x, hx, ?_⟩
        unfold swapF
        rw [if_neg e1, if_neg e3]
  · rcases swapF_cases q i j x with ⟨a1, a2⟩ | ⟨a1, a2⟩ | ⟨a1, a3, a2⟩ <;> rcases swapF_cases q i j y with ⟨b1, b2⟩ | ⟨b1, b2⟩ | ⟨b1, b3, b2⟩ <;> rw [a2, b2] at e
    · omega
    · have := h _ _ hj hi e; omega
    · have := h _ _ hj hy e; omega
    · have := h _ _ hi hj e; omega
    · omega
    · have := h _ _ hi hy e; omega
    · have := h _ _ hx hj e; omega
    · have := h _ _ hx hi e; omega
    · exact h _ _ hx hy e
  · rcases swapF_cases q i j x with ⟨a1, _⟩ | ⟨a1, _⟩ | ⟨_, _, e⟩
    · omega
    · omega
    · exact e

theorem Shuf.more {q q' : Nat → Nat} {n m : Nat} (a : Shuf q q' n) (h : n ≤ m) : Shuf q q' m := by
  refine ⟨fun i hi => ?_, fun j hj => ?_, fun hinj x y hx hy e => ?_, fun x hx => a.rest x (by omega)⟩
  · by_cases e : i < n
    · obtain ⟨j, hj, e2⟩ := a.into i e; exact ⟨j, by omega, e2⟩
    · exact ⟨i, hi, a.rest i (by omega)⟩
  · by_cases e : j < n
    · obtain ⟨i, hi, e2⟩ := a.onto j e; exact ⟨i, by omega, e2⟩
    · exact ⟨j, hj, a.rest j (by omega)⟩
  · by_cases e1 : x < n <;> by_cases e2 : y < n
    · exact a.inj (fun i j hi hj => hinj i j (by omega) (by omega)) x y e1 e2 e
    · obtain ⟨j, hj, e3⟩ := a.into x e1
      rw [e3, a.rest y (by omega)] at e
      have := hinj j y (by omega) hy e; omega
    · obtain ⟨j, hj, e3⟩ := a.into y e2
      rw [e3, a.rest x (by omega)] at e
      have := hinj x j hx (by omega) e; omega
    · rw [a.rest x (by omega), a.rest y (by omega)] at e
      exact hinj x y hx hy e

theorem push_up {c : Nat → Int} {q : Nat → Nat} {n k : Nat} (h : IsHeap c q n) : UpInv c (fun x => if x = n then k else q x) (n + 1) n := by
  constructor
  · intro i h0 hi hne
    have := par_lt h0
    rw [if_neg (by omega : ¬ par i = n), if_neg hne]
    exact h i h0 (by omega)
  · intro i h0 hi hp _
    have := par_lt h0
    omega

theorem pop_down {c : Nat → Int} {q : Nat → Nat} {n : Nat} (h : IsHeap c q (n + 1)) : DownInv c (swapF q 0 n) n 0 := by
  constructor
  · intro k h0 hk hne
    have := par_lt h0
    unfold swapF
    rw [if_neg hne, if_neg (by omega : ¬ par k = n), if_neg (by omega : ¬ k = 0), if_neg (by omega : ¬ k = n)]
    exact h k h0 (by omega)
  · intro k _ _ _ h0
    omega
end Go.Proofs.YtidoieolejkflaaGreat
namespace Go.Proofs.YtidoieolejkflaaGreat
open Go.RowKit

set_option linter.unusedSimpArgs false

def ptrV (k : Nat) : Value := .pointer (some ⟨k, 0, none⟩)

def ptrs (q : Nat → Nat) (n : Nat) : List Value := (List.range n).map (fun i => ptrV (q i))

theorem ptrs_at {q : Nat → Nat} {n i : Nat} (h : i < n) : (ptrs q n)[i]? = some (ptrV (q i)) := by simp [ptrs, h]

theorem ptrs_len (q : Nat → Nat) (n : Nat) : (ptrs q n).length = n := by simp [ptrs]

/-- the row u of n pointers to ways -/
structure HQ (W : World) (lo : Nat) (u : Value) (n : Nat) (q : Nat → Nat) (wd : Nat → WayD) (wv : Nat → Value) : Prop where
  row : W.ownsRow lo 121 1 u n (ptrs q n)
  way : ∀ i, i < n → W.heap[q i]? = some (.cells (wayC (wd (q i)) (wv (q i))) 46)
  sl : ∀ i, i < n → ∃ a l c, wv (q i) = .slice a l c

theorem HQ.cell {W : World} {lo n : Nat} {u : Value} {q : Nat → Nat} {wd : Nat → WayD} {wv : Nat → Value} (h : HQ W lo u n q wd wv) {i : Nat} (hi : i < n) : ∃ g cap, u = .slice (some ⟨g, 0, none⟩) n cap ∧ W.cell? ⟨g, i, none⟩ = some (ptrV (q i)) ∧ g < W.heap.size := by
  rcases h.row.2 with ⟨_, e⟩ | ⟨g, cap, cur, hv, _⟩
  · omega
  · refine ⟨g, cap, hv, ?_, (h.row.lt g (by rw [hv]; rfl)).2⟩
    have := World.ownsRow.cellAt (by rw [← hv]; exact h.row) i (by omega)
    rw [this, ptrs_at hi]

theorem HQ.below {W W' : World} {lo n : Nat} {u : Value} {q : Nat → Nat} {wd : Nat → WayD} {wv : Nat → Value} (h : HQ W lo u n q wd wv) (hb : Below W.heap.size W W') : HQ W' lo u n q wd wv :=
  ⟨owns_below h.row hb (Nat.le_refl _), fun i hi => (hb.block _ (lt_of_heap (h.way i hi))).trans (h.way i hi), h.sl⟩

set_option maxRecDepth 100000 in
set_option maxHeartbeats 1000000 in
theorem less_any (W : World) (lo n : Nat) (u : Value) (q : Nat → Nat) (wd : Nat → WayD) (wv : Nat → Value) (i j : Nat) (h : HQ W lo u n q wd wv) (hi : i < n) (hj : j < n) :
    Calls Tryz.prog 215 #[u, .int .i64 (i : Int), .int .i64 (j : Int)] W fun e W' => e = .returned (.bool (decide ((wd (q i)).cost < (wd (q j)).cost))) ∧ Below W.heap.size W W' := by
  obtain ⟨g, cap, rfl, ci, hg⟩ := h.cell hi
  obtain ⟨g2, cap2, e2, cj, _⟩ := h.cell hj
  cases e2
  obtain ⟨ai, li, ci2, ei⟩ := h.sl i hi
  obtain ⟨aj, lj, cj2, ej⟩ := h.sl j hj
  have wi := h.way i hi
  have wj := h.way j hj
  rw [ei] at wi
  rw [ej] at wj
  obtain ⟨x, hx⟩ : ∃ x, x = wd (q i) := ⟨_, rfl⟩
  obtain ⟨y, hy⟩ : ∃ y, y = wd (q j) := ⟨_, rfl⟩
  obtain ⟨p, hp⟩ : ∃ p, p = q i := ⟨_, rfl⟩
  obtain ⟨r, hr⟩ : ∃ r, r = q j := ⟨_, rfl⟩
  rw [← hx] at wi ⊢
  rw [← hy] at wj ⊢
  rw [← hp] at ci wi
  rw [← hr] at cj wj
  unfold ptrV at ci cj
  have a0 := cells_at wi 0
  have a1 := cells_at wi 1
  have a2 := cells_at wi 2
  have b0 := cells_at wj 0
  have b1 := cells_at wj 1
  have b2 := cells_at wj 2
  simp [wayC] at a0 a1 a2 b0 b1 b2
  have hBt := hide (fun W => ibetter_any (.slice ai li ci2) (.slice aj lj cj2) x y W)
  unfold wayC betterB at hBt
  have h1 : (0 : Int) ≤ (i : Int) := by omega
  have h2 : (i : Int) < (n : Int) := by omega
  have h3 : (0 : Int) ≤ (j : Int) := by omega
  have h4 : (j : Int) < (n : Int) := by omega
  have lp := lt_of_heap wi
  have lr := lt_of_heap wj
  clear h hx hy hp hr wi wj ei ej
  go_enter Tryz.func215, Tryz.ntmps215
  go_wp2
  go_region_held3 (fun V => V.cell? ⟨g, i, none⟩ = some (.pointer (some ⟨p, 0, none⟩)) ∧ V.cell? ⟨g, j, none⟩ = some (.pointer (some ⟨r, 0, none⟩)) ∧ V.cell? ⟨p, 0, none⟩ = some (.int .i64 x.to) ∧ V.cell? ⟨p, 1, none⟩ = some (.int .i64 x.cost) ∧ V.cell? ⟨p, 2, none⟩ = some (.slice ai li ci2) ∧ V.cell? ⟨r, 0, none⟩ = some (.int .i64 y.to) ∧ V.cell? ⟨r, 1, none⟩ = some (.int .i64 y.cost) ∧ V.cell? ⟨r, 2, none⟩ = some (.slice aj lj cj2)) (first | (refine ⟨?_, ?_, ?_, ?_, ?_, ?_, ?_, ?_⟩ <;> (refine Eq.trans (Below.cell (B := W.heap.size) (w := W.drew) hbb ?_) ?_ <;> assumption)) | go_keep) (first | (go_at_call 47; refine (hBt.out _).mono ?_; rintro e w2 ⟨rfl, hbb⟩))
  go_wp2
  go_ret
  exact ⟨rfl, ((Below.refl W.heap.size W).drew).trans hbb⟩

set_option maxRecDepth 100000 in
set_option maxHeartbeats 1000000 in
theorem len_any (W : World) (a : Option Addr) (n cap : Nat) : Calls Tryz.prog 131 #[.slice a n cap] W fun e W' => e = .returned (.int .i64 (n : Int)) ∧ W = W' := by
  go_enter Tryz.func131, Tryz.ntmps131
  go_wp2
  go_ret
  exact ⟨rfl, rfl⟩

theorem owns_put {W : World} {lo n g cap i : Nat} {e : TypeId} {q : Nat → Nat} (h : W.ownsRow lo e 1 (.slice (some ⟨g, 0, none⟩) n cap) n (ptrs q n)) (hi : i < n) (k : Nat) : (W.setCell ⟨g, i, none⟩ (ptrV k)).ownsRow lo e 1 (.slice (some ⟨g, 0, none⟩) n cap) n (ptrs (fun x => if x = i then k else q x) n) := by
  rcases h.2 with ⟨e1, _⟩ | ⟨g', cap', cur, hv, hg, hh, hnc, hcm, hcs, htk⟩
  · cases e1
  · cases hv
    refine ⟨by rw [ptrs_len]; omega, .inr ⟨g, cap, cur.setIfInBounds i (ptrV k), rfl, hg, heap_setCell_same W g i _ _ _ hh, hnc, hcm, by simpa using hcs, ?_⟩⟩
    have e2 : (cur.setIfInBounds i (ptrV k)).toList = cur.toList.set i (ptrV k) := by simp
    rw [e2, List.take_set]
    have e3 : cur.toList.take (n * 1) = ptrs q n := htk
    rw [Nat.mul_one] at e3 ⊢
    rw [e3]
    apply List.ext_getElem?
    intro x
    rw [List.getElem?_set]
    by_cases hx : x < n
    · rw [ptrs_at hx]
      by_cases e4 : i = x
      · subst e4
        rw [if_pos rfl, if_pos (by rw [ptrs_len]; exact hi), ptrs_at hi, if_pos rfl]
      · rw [if_neg e4, ptrs_at hx, if_neg (fun e => e4 e.symm)]
    · rw [List.getElem?_eq_none (by rw [ptrs_len]; omega), if_neg (by omega), List.getElem?_eq_none (by rw [ptrs_len]; omega)]

set_option maxRecDepth 100000 in
set_option maxHeartbeats 1000000 in
theorem swap_any (W : World) (lo n : Nat) (u : Value) (q : Nat → Nat) (i j : Nat) (h : W.ownsRow lo 121 1 u n (ptrs q n)) (hi : i < n) (hj : j < n) :
    Calls Tryz.prog 216 #[u, .int .i64 (i : Int), .int .i64 (j : Int)] W fun e W' => e = .returned (.tuple #[]) ∧ W'.ownsRow lo 121 1 u n (ptrs (swapF q i j) n) ∧ W.grownBy W' u.ownBlock := by
  rcases h.2 with ⟨_, e⟩ | ⟨g, cap, cur, hv, hg, hh, _⟩
  · omega
  subst hv
  have ci := (World.ownsRow.cellAt h i (by omega)).trans (ptrs_at hi)
  have cj := (World.ownsRow.cellAt h j (by omega)).trans (ptrs_at hj)
  have fz := frozen_at hh
  obtain ⟨p, hp⟩ : ∃ p, p = q i := ⟨_, rfl⟩
  obtain ⟨r, hr⟩ : ∃ r, r = q j := ⟨_, rfl⟩
  rw [← hp] at ci
  rw [← hr] at cj
  unfold ptrV at ci cj
  have h1 : (0 : Int) ≤ (i : Int) := by omega
  have h2 : (i : Int) < (n : Int) := by omega
  have h3 : (0 : Int) ≤ (j : Int) := by omega
  have h4 : (j : Int) < (n : Int) := by omega
  obtain ⟨y, hy⟩ : ∃ y, (W.setCell ⟨g, i, none⟩ (.pointer (some ⟨r, 0, none⟩))).cell? ⟨g, j, none⟩ = some y := by
    have o1 := owns_put h hi r
    exact ⟨_, (World.ownsRow.cellAt o1 j (by omega)).trans (ptrs_at hj)⟩
  have HP := hide hp
  have HR := hide hr
  have HH := hide h
  have HO := hide (show ((W.setCell ⟨g, i, none⟩ (.pointer (some ⟨r, 0, none⟩))).setCell ⟨g, j, none⟩ (.pointer (some ⟨p, 0, none⟩))).ownsRow lo 121 1 (.slice (some ⟨g, 0, none⟩) n cap) n (ptrs (swapF q i j) n) by
    have o2 := owns_put (owns_put h hi r) hj p
    have e : (fun x => if x = j then p else if x = i then r else q x) = swapF q i j := by
      funext x
      unfold swapF
      by_cases e1 : x = j
      · rw [if_pos e1]
        by_cases e2 : x = i
        · rw [if_pos e2, hp, ← e2, e1]
        · rw [if_neg e2, if_pos e1, hp]
      · rw [if_neg e1]
        by_cases e2 : x = i
        · rw [if_pos e2, if_pos e2, hr]
        · rw [if_neg e2, if_neg e2, if_neg e1]
    rw [e] at o2
    exact o2)
  have HG := hide (show W.grownBy ((W.setCell ⟨g, i, none⟩ (.pointer (some ⟨r, 0, none⟩))).setCell ⟨g, j, none⟩ (.pointer (some ⟨p, 0, none⟩))) (some g) from grown_trans (grown_set W g _ _) (grown_set _ g _ _))
  clear hh hp hr h
  go_enter Tryz.func216, Tryz.ntmps216
  go_wp2
  go_region
  go_wp2
  go_returns
  exact ⟨rfl, HO.out.drew, ⟨HG.out.os, HG.out.tape, HG.out.output, HG.out.size, HG.out.block⟩⟩
end Go.Proofs.YtidoieolejkflaaGreat
namespace Go.Proofs.YtidoieolejkflaaGreat
open Go.RowKit

theorem run_wrapChk {P : Program} {t : TypeId} {p : Addr} {nm : String} {w : World} : (Builtin.ssaWrapNilChk_ #[t] t #[.pointer (some p), strVal "", strVal nm]).run P w = .ok (.pointer (some p)) w := rfl

/-- a method of the value, called through a pointer to it: the receiver is read there -/
theorem run_method_val {P : Program} {fuel : Nat} {t elem e2 : TypeId} {f : FuncId} {i : TypeInfo} {m : Go.Method} {name : String} {p : Addr} {u : Value} {w : World} (hi : P.info? t = some i) (hm : i.methods.find? (·.name == name) = some m) (hp : m.path = #[]) (hf : m.func = some (f, false))
    (hu : P.underlying t = some (.pointer elem)) (hd : P.underlying elem = some (.slice e2)) (hc : w.cell? p = some u) :
    (method (fuel + 1) t (.pointer (some p)) name).run P w = .ok (f, u) w := by
  have hagg : (isAgg elem).run P w = .ok false w := by
    unfold isAgg
    simp [run_underlying hd, go_sem]
  unfold method
  simp [typeInfo, hi, hm, hp, hf, follow, receiverAt, run_underlying hu, Place.get, run_wrapChk, asAddr, hagg, go_sem, loadVar, hc]

theorem run_method_closed {P : Program} {fuel : Nat} {t elem e2 : TypeId} {f : FuncId} {name : String} {p : Addr} {u : Value} {w : World} (h : (P.info? t).map (fun i => (i.methods.find? (·.name == name)).map (fun m => (m.path, m.func))) = some (some (#[], some (f, false))))
    (hu : P.underlying t = some (.pointer elem)) (hd : P.underlying elem = some (.slice e2)) (hc : w.cell? p = some u) :
    (method (fuel + 1) t (.pointer (some p)) name).run P w = .ok (f, u) w := by
  obtain ⟨i, hi, h1⟩ := Option.map_eq_some_iff.1 h
  obtain ⟨m, hm, h2⟩ := Option.map_eq_some_iff.1 h1
  simp only [Prod.mk.injEq] at h2
  exact run_method_val hi hm h2.1 h2.2 hu hd hc

theorem und_ptrHeap : Tryz.prog.underlying 167 = some (.pointer 124) := by kernel_rfl

theorem und_heap : Tryz.prog.underlying 124 = some (.slice 121) := by kernel_rfl

theorem meth_Less {p : Addr} {u : Value} {w : World} (hc : w.cell? p = some u) : (method 356 167 (.pointer (some p)) "Less").run Tryz.prog w = .ok (215, u) w :=
  run_method_closed (by kernel_rfl) und_ptrHeap und_heap hc

theorem meth_Len {p : Addr} {u : Value} {w : World} (hc : w.cell? p = some u) : (method 356 167 (.pointer (some p)) "Len").run Tryz.prog w = .ok (131, u) w :=
  run_method_closed (by kernel_rfl) und_ptrHeap und_heap hc

theorem meth_Swap {p : Addr} {u : Value} {w : World} (hc : w.cell? p = some u) : (method 356 167 (.pointer (some p)) "Swap").run Tryz.prog w = .ok (216, u) w :=
  run_method_closed (by kernel_rfl) und_ptrHeap und_heap hc
end Go.Proofs.YtidoieolejkflaaGreat
