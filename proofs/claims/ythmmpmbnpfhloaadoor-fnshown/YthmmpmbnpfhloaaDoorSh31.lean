/-
  The best offer of a thing, as the specification collects it.
  spec.l07Owner, impl.wayToOwner: the way to who owns a thing.
  Offers sorted and put together: the mathematics of impl.bestOffers.
  impl.routesToNodes: its contract.
  What FnRoutes asks of the routes of a node, as mathematics.
-/
import Derived.Test.YthmmpmbnpfhloaaDoorSh29
namespace Go.Proofs.YthmmpmbnpfhloaaDoor
open Go.RowKit

def rank2 (far : Bool) (f c : Int) : Int := if far then 4000000000000 + f * 1000000 + c else 3000000000000 + c

/-- what one counts of an offer: far, cost -/
def moreT (far : Bool) (c : Int) : Int := if far then c else 0
def costT (far : Bool) (c k : Int) : Int := if far then k else k + c

theorem rank2_F (far : Bool) (c k : Int) : rank2 far (moreT far c) (costT far c k) = rankF far c k := by
  unfold rank2 moreT costT rankF
  cases far
  · simp; omega
  · simp

structure ThIn (key : Int) (far : Bool) (q : RtD) : Prop where
  thing : q.thing = true
  to : q.to = key
  kind : q.kind = if far then 4 else 3
  cost : 0 ≤ q.cost ∧ q.cost ≤ 61000
  far : 0 ≤ q.far ∧ q.far ≤ 1000 ∧ (far = false → q.far = 0)

def zeroT (key : Int) : RtD := ⟨true, key, 3, 0, 0, []⟩

/-- the collecting under way: what is found (F), and the best so far -/
def ThSt (key : Int) (far : Bool) (F : Bool) (q : RtD) (S : WayD → Prop) : Prop :=
  if F then ThIn key far q ∧ BestOf key S (some ⟨key, rank2 far q.far q.cost, q.hops⟩) else q = zeroT key ∧ BestOf key S none

theorem ThIn.rt {key : Int} {far : Bool} {q : RtD} (h : ThIn key far q) : rtOf ⟨key, rank2 far q.far q.cost, q.hops⟩ = q := by
  obtain ⟨h1, h2, h3, h4, h5⟩ := h
  obtain ⟨th, to, kind, cost, fa, hops⟩ := q
  simp only at h1 h2 h3 h4 h5
  subst h1
  subst h2
  subst h3
  unfold rtOf rank2
  cases far
  · have h6 : fa = 0 := h5.2.2 rfl
    subst h6
    simp only [Bool.false_eq_true, if_false]
    rw [if_pos (by omega)]
    congr 1
    omega
  · simp only [if_true]
    rw [if_neg (by omega)]
    congr 1 <;> omega

theorem addL_nil {l : List Int} (ha : l.Pairwise (· < ·)) (h6 : Hop6 l) : addL [] l = l :=
  (asc_addL ha (fun x => by simp) h6).symm

theorem rank2_lt {far : Bool} {f c f' c' : Int} (h0 : 0 ≤ c) (h1 : c ≤ 61000) (h0' : 0 ≤ c') (h1' : c' ≤ 61000) (hf : far = false → f = 0) (hf' : far = false → f' = 0) : rank2 far f c < rank2 far f' c' ↔ f < f' ∨ (f = f' ∧ c < c') := by
  unfold rank2
  cases far
  · have := hf rfl
    have := hf' rfl
    simp only [Bool.false_eq_true, if_false]
    omega
  · simp only [if_true]
    omega

/-- an offer that is better than all so far, or the first -/
theorem ThSt.less {key : Int} {far F : Bool} {q : RtD} {S : WayD → Prop} {m c : Int} {l : List Int} (h : ThSt key far F q S) (hS : ∀ w, S w → Hop6 w.hops) (hl : F = true → m < q.far ∨ (m = q.far ∧ c < q.cost))
    (hm : 0 ≤ m ∧ m ≤ 1000 ∧ (far = false → m = 0)) (hc : 0 ≤ c ∧ c ≤ 61000) (ha : l.Pairwise (· < ·)) (h6 : Hop6 l) :
    ThSt key far true ⟨true, key, if far then 4 else 3, c, m, l⟩ (fun x => S x ∨ x = ⟨key, rank2 far m c, l⟩) := by
  unfold ThSt at h ⊢
  rw [if_pos rfl]
  refine ⟨⟨rfl, rfl, rfl, hc, hm⟩, ?_⟩
  cases F
  · rw [if_neg (by simp)] at h
    exact h.2.add togOk_D hS (w := ⟨key, rank2 far m c, l⟩) rfl ha h6
  · rw [if_pos rfl] at h
    obtain ⟨hq, hb⟩ := h
    have h1 := hb.add togOk_D hS (w := ⟨key, rank2 far m c, l⟩) rfl ha h6
    have h2 : rank2 far m c < rank2 far q.far q.cost := (rank2_lt hc.1 hc.2 hq.cost.1 hq.cost.2 hm.2.2 hq.far.2.2).2 (hl rfl)
    have e : togD ⟨key, rank2 far q.far q.cost, q.hops⟩ ⟨key, rank2 far m c, l⟩ = ⟨key, rank2 far m c, l⟩ := by
      unfold togD betterB
      rw [if_neg (by simp; omega), if_pos (by simpa using h2)]
    have h3 : moreW togD (some ⟨key, rank2 far q.far q.cost, q.hops⟩) (some ⟨key, rank2 far m c, l⟩) = some ⟨key, rank2 far m c, l⟩ := by unfold moreW; simp only []; rw [e]
    rw [h3] at h1
    exact h1

/-- an offer as good as the best -/
theorem ThSt.like {key : Int} {far : Bool} {q : RtD} {S : WayD → Prop} {l : List Int} (h : ThSt key far true q S) (hS : ∀ w, S w → Hop6 w.hops) (ha : l.Pairwise (· < ·)) (h6 : Hop6 l) :
    ThSt key far true ⟨true, key, if far then 4 else 3, q.cost, q.far, addL q.hops l⟩ (fun x => S x ∨ x = ⟨key, rank2 far q.far q.cost, l⟩) := by
  unfold ThSt at h ⊢
  rw [if_pos rfl] at h ⊢
  obtain ⟨hq, hb⟩ := h
  refine ⟨⟨rfl, rfl, rfl, hq.cost, hq.far⟩, ?_⟩
  have h1 := hb.add togOk_D hS (w := ⟨key, rank2 far q.far q.cost, l⟩) rfl ha h6
  have e : togD ⟨key, rank2 far q.far q.cost, q.hops⟩ ⟨key, rank2 far q.far q.cost, l⟩ = ⟨key, rank2 far q.far q.cost, addL q.hops l⟩ := by
    unfold togD betterB
    rw [if_neg (by simp), if_neg (by simp)]
  have h3 : moreW togD (some ⟨key, rank2 far q.far q.cost, q.hops⟩) (some ⟨key, rank2 far q.far q.cost, l⟩) = some ⟨key, rank2 far q.far q.cost, addL q.hops l⟩ := by unfold moreW; simp only []; rw [e]
  rw [h3] at h1
  exact h1

/-- an offer that is worse -/
theorem ThSt.worse {key : Int} {far : Bool} {q : RtD} {S : WayD → Prop} {m c : Int} {l : List Int} (h : ThSt key far true q S) (hS : ∀ w, S w → Hop6 w.hops) (hl : ¬ (m < q.far ∨ (m = q.far ∧ c < q.cost))) (hn : ¬ (m = q.far ∧ c = q.cost))
    (hm : 0 ≤ m ∧ m ≤ 1000 ∧ (far = false → m = 0)) (hc : 0 ≤ c ∧ c ≤ 61000) (ha : l.Pairwise (· < ·)) (h6 : Hop6 l) :
    ThSt key far true q (fun x => S x ∨ x = ⟨key, rank2 far m c, l⟩) := by
  unfold ThSt at h ⊢
  rw [if_pos rfl] at h ⊢
  obtain ⟨hq, hb⟩ := h
  refine ⟨hq, ?_⟩
  have h1 := hb.add togOk_D hS (w := ⟨key, rank2 far m c, l⟩) rfl ha h6
  have h2 : rank2 far q.far q.cost < rank2 far m c := (rank2_lt hq.cost.1 hq.cost.2 hc.1 hc.2 hq.far.2.2 hm.2.2).2 (by omega)
  have e : togD ⟨key, rank2 far q.far q.cost, q.hops⟩ ⟨key, rank2 far m c, l⟩ = ⟨key, rank2 far q.far q.cost, q.hops⟩ := by
    unfold togD betterB
    rw [if_pos (by simpa using h2)]
  have h3 : moreW togD (some ⟨key, rank2 far q.far q.cost, q.hops⟩) (some ⟨key, rank2 far m c, l⟩) = some ⟨key, rank2 far q.far q.cost, q.hops⟩ := by unfold moreW; simp only []; rw [e]
  rw [h3] at h1
  exact h1

theorem ThSt.congr {key : Int} {far F : Bool} {q : RtD} {S T : WayD → Prop} (h : ThSt key far F q S) (e : ∀ d, S d ↔ T d) : ThSt key far F q T := by
  have : S = T := funext fun w => propext (e w)
  rw [← this]
  exact h

/-- the offers of a thing by the first k records, near ones or far ones -/
def thK (xs : List RecD) (ds es : List WayD) (src key : Int) (far : Bool) (k : Nat) (d : WayD) : Prop := ∃ r ∈ xs.take k, r.key = key ∧ r.far = far ∧ offersOf ds es src r d

theorem thK_step {xs : List RecD} {ds es : List WayD} {src key : Int} {far : Bool} {k : Nat} {r : RecD} (h : xs[k]? = some r) (d : WayD) : thK xs ds es src key far (k + 1) d ↔ thK xs ds es src key far k d ∨ (r.key = key ∧ r.far = far ∧ offersOf ds es src r d) := by
  obtain ⟨hk, e⟩ := List.getElem?_eq_some_iff.1 h
  unfold thK
  rw [List.take_succ_eq_append_getElem hk, e]
  constructor
  · rintro ⟨x, hx, ht⟩
    rcases List.mem_append.1 hx with h1 | h1
    · exact .inl ⟨x, h1, ht⟩
    · have : x = r := by simpa using h1
      subst this
      exact .inr ht
  · rintro (⟨x, hx, ht⟩ | ht)
    · exact ⟨x, List.mem_append.2 (.inl hx), ht⟩
    · exact ⟨r, List.mem_append.2 (.inr (by simp)), ht⟩

theorem thK_quiet {xs : List RecD} {ds es : List WayD} {src key : Int} {far F : Bool} {k : Nat} {r : RecD} {q : RtD} (h : xs[k]? = some r) (hst : ThSt key far F q (thK xs ds es src key far k)) (hn : r.key = key → r.far = far → ∀ d, ¬ offersOf ds es src r d) : ThSt key far F q (thK xs ds es src key far (k + 1)) :=
  hst.congr (fun d => by
    rw [thK_step h]
    exact ⟨.inl, fun h' => by
      rcases h' with h1 | ⟨h1, h2, h3⟩
      · exact h1
      · exact absurd h3 (hn h1 h2 d)⟩)

theorem thK_more {xs : List RecD} {ds es : List WayD} {src key : Int} {far : Bool} {k : Nat} {r : RecD} {e : WayD} (h : xs[k]? = some r) (h1 : r.key = key) (h2 : r.far = far) (h3 : offersOf ds es src r e) (d : WayD) : (thK xs ds es src key far k d ∨ d = e) ↔ thK xs ds es src key far (k + 1) d := by
  rw [thK_step h]
  constructor
  · rintro (h' | rfl)
    · exact .inl h'
    · exact .inr ⟨h1, h2, h3⟩
  · rintro (h' | ⟨_, _, h'⟩)
    · exact .inl h'
    · exact .inr (offersOf_one h' h3)

theorem thK_hop {xs : List RecD} {ds es : List WayD} {src key : Int} {far : Bool} {k : Nat} (hs : storeB xs = true) (hd : GoodL ds) (he : GoodL es) : ∀ w, thK xs ds es src key far k w → Hop6 w.hops := by
  rintro w ⟨r, hr, _, _, h⟩
  exact (offersOf_good hs (List.mem_of_mem_take hr) hd he h).hop6

theorem thK_zero {xs : List RecD} {ds es : List WayD} {src key : Int} {far : Bool} : ThSt key far false (zeroT key) (thK xs ds es src key far 0) := by
  unfold ThSt
  rw [if_neg (by simp)]
  exact ⟨rfl, fun w ⟨r, hr, _⟩ => by simp at hr⟩

/-- near ones are ahead of far ones -/
theorem thing_near {xs : List RecD} {ds es : List WayD} {src key : Int} {q : RtD} (hs : storeB xs = true) (hd : GoodL ds) (he : GoodL es) (h : ThSt key false true q (thK xs ds es src key false xs.length)) : ThIn key false q ∧ BestOf key (thingS xs ds es src key) (some ⟨key, rank2 false q.far q.cost, q.hops⟩) := by
  unfold ThSt at h
  rw [if_pos rfl] at h
  obtain ⟨hq, h1, ⟨u, ⟨r, hr, hk, hf, ho⟩, hc⟩, h3, h4, h5⟩ := h
  rw [List.take_length] at hr
  have hto : ∀ (r : RecD) (w : WayD), offersOf ds es src r w → w.to = r.key := by rintro r w ⟨_, _, v, _, rfl⟩; rfl
  have hlow : rank2 false q.far q.cost ≤ 3000000061000 := by unfold rank2; simp; have := hq.cost; omega
  have hfar : ∀ (r : RecD) (w : WayD), r ∈ xs → r.far = true → offersOf ds es src r w → 4000000000000 ≤ w.cost := by
    rintro r w hr hf ho
    have hg := offersOf_good hs hr hd he ho
    obtain ⟨h1, h2, v, h3, rfl⟩ := ho
    have := ownerW_good hd he h3
    have := rec_thing hs hr h1 h2
    show 4000000000000 ≤ rankF r.far r.cost v.cost
    unfold rankF
    rw [if_pos hf]
    omega
  refine ⟨hq, h1, ⟨u, ⟨by rw [hto r u ho, hk], r, hr, ho⟩, hc⟩, ?_, h4, ?_⟩
  · rintro w ⟨e, r', hr', ho'⟩
    cases hf' : r'.far
    · exact h3 w ⟨r', by rw [List.take_length]; exact hr', by rw [← e, hto r' w ho'], hf', ho'⟩
    · have := hfar r' w hr' hf' ho'
      show rank2 false q.far q.cost ≤ w.cost
      omega
  · intro x
    rw [h5 x]
    constructor
    · rintro ⟨w, ⟨r', hr', hk', hf', ho'⟩, e, hx⟩
      rw [List.take_length] at hr'
      exact ⟨w, ⟨by rw [hto r' w ho', hk'], r', hr', ho'⟩, e, hx⟩
    · rintro ⟨w, ⟨e, r', hr', ho'⟩, ec, hx⟩
      cases hf' : r'.far
      · exact ⟨w, ⟨r', by rw [List.take_length]; exact hr', by rw [← e, hto r' w ho'], hf', ho'⟩, ec, hx⟩
      · have := hfar r' w hr' hf' ho'
        simp only at ec
        omega

/-- no near one: the far ones -/
theorem thing_far {xs : List RecD} {ds es : List WayD} {src key : Int} {F : Bool} {q q0 : RtD} (h0 : ThSt key false false q0 (thK xs ds es src key false xs.length)) (h : ThSt key true F q (thK xs ds es src key true xs.length)) : ThSt key true F q (thingS xs ds es src key) := by
  refine h.congr (fun d => ?_)
  unfold ThSt at h0
  rw [if_neg (by simp)] at h0
  have hto : ∀ (r : RecD) (w : WayD), offersOf ds es src r w → w.to = r.key := by rintro r w ⟨_, _, v, _, rfl⟩; rfl
  constructor
  · rintro ⟨r, hr, hk, _, ho⟩
    rw [List.take_length] at hr
    exact ⟨by rw [hto r d ho, hk], r, hr, ho⟩
  · rintro ⟨e, r, hr, ho⟩
    cases hf : r.far
    · exact absurd ⟨r, by rw [List.take_length]; exact hr, by rw [← e, hto r d ho], hf, ho⟩ (h0.2 d)
    · exact ⟨r, by rw [List.take_length]; exact hr, by rw [← e, hto r d ho], hf, ho⟩
end Go.Proofs.YthmmpmbnpfhloaaDoor
namespace Go.Proofs.YthmmpmbnpfhloaaDoor
open Go.RowKit

set_option linter.unusedSimpArgs false

def ownD (ds es : List WayD) (src o : Int) : WayD := (ownerW ds es src o).getD zeroWD
def ownB (ds es : List WayD) (src o : Int) : Bool := (ownerW ds es src o).isSome

theorem own_find (ds es : List WayD) (src o : Int) : (ownB ds es src o = true ∧ ownerW ds es src o = some (ownD ds es src o)) ∨ (ownB ds es src o = false ∧ ownerW ds es src o = none ∧ ownD ds es src o = zeroWD) := by
  unfold ownB ownD
  cases e : ownerW ds es src o with
  | none => exact .inr ⟨rfl, rfl, rfl⟩
  | some w => exact .inl ⟨rfl, rfl⟩

theorem own_self (ds es : List WayD) (src : Int) : ownD ds es src src = ⟨src, 0, []⟩ ∧ ownB ds es src src = true := by
  unfold ownD ownB ownerW
  rw [if_pos rfl]
  exact ⟨rfl, rfl⟩

theorem own_within {ds es : List WayD} {src o : Int} (h : o ≠ src) (hb : wayToB ds o = true) : ownD ds es src o = wayToD ds o ∧ ownB ds es src o = true := by
  unfold ownD ownB ownerW
  rw [if_neg h, findW_append]
  unfold wayToB at hb
  unfold wayToD findW
  cases e : ds.find? (fun x => x.to == o) with
  | none => rw [e] at hb; cases hb
  | some w => exact ⟨rfl, rfl⟩

theorem own_beyond {ds es : List WayD} {src o : Int} (h : o ≠ src) (hb : wayToB ds o = false) : ownD ds es src o = wayToD es o ∧ ownB ds es src o = wayToB es o := by
  unfold ownD ownB ownerW
  rw [if_neg h, findW_append]
  unfold wayToB at hb
  unfold wayToD wayToB findW
  cases e : ds.find? (fun x => x.to == o) with
  | none => exact ⟨by simp, by simp⟩
  | some w => rw [e] at hb; cases hb

/-- the end: a way in the result's cell -/
theorem own_end {W : World} {z : Nat} {c0 c1 c2 : Value} (B : Nat) (x : WayD) (v : Value) (hz : W.heap[z]? = some (.cells #[c0, c1, c2] 93)) (ho : W.ownsRow B 3 1 v x.hops.length (flat intE x.hops)) :
    (putW3 W z x v).heap[z]? = some (.cells (wayC x v) 93) ∧ (putW3 W z x v).ownsRow B 3 1 v x.hops.length (flat intE x.hops) ∧ Below z W (putW3 W z x v) := by
  have G := grownW3 W z x v
  refine ⟨finW3 x v hz, owns_keepB ho (fun k hk => G.block k (ho.lt k hk).2 (fun e => own_type_ne2 ho hz (by decide) (by rw [hk]; exact e.symm))), (Below.refl z W).grown G ?_ (fun k hk => by simp at hk; omega)⟩
  have := lt_of_heap hz
  omega

set_option maxRecDepth 100000 in
set_option maxHeartbeats 4000000 in
theorem sowner_any (v u : Value) (ws bs : List WP) (lo hi lo2 hi2 : Nat) (o src : Int) (w : World) (hv : WaysOwn w lo hi v ws) (hhi : hi ≤ w.heap.size) (hn : totW ws ≤ 1048576) (hu : WaysOwn w lo2 hi2 u bs) (hhi2 : hi2 ≤ w.heap.size) (hn2 : totW bs ≤ 1048576) :
    Calls Tryd.prog 61 #[v, u, .int .i64 o, .int .i64 src] w fun e w' => ∃ x, e = .returned (.tuple #[.agg (wayC (ownD (fstsW ws) (fstsW bs) src o) x), .bool (ownB (fstsW ws) (fstsW bs) src o)]) ∧ w'.ownsRow w.heap.size 3 1 x (ownD (fstsW ws) (fstsW bs) src o).hops.length (flat intE (ownD (fstsW ws) (fstsW bs) src o).hops) ∧ Below w.heap.size w w' := by
  obtain ⟨a1, c1, rfl⟩ := owns_lenS hv.row
  obtain ⟨a2, c2, rfl⟩ := owns_lenS hu.row
  have H1 := hide (fun W (hb : Below w.heap.size w W) => swayTo_any (.slice a1 ws.length c1) ws lo hi o W (hv.below hb hhi) (Nat.le_trans hhi hb.size) hn)
  have H2 := hide (fun W (hb : Below w.heap.size w W) => swayTo_any (.slice a2 bs.length c2) bs lo2 hi2 o W (hu.below hb hhi2) (Nat.le_trans hhi2 hb.size) hn2)
  clear hv hu
  have HS := hide (own_self (fstsW ws) (fstsW bs) src)
  have HW := hide (own_within (ds := fstsW ws) (es := fstsW bs) (src := src) (o := o))
  have HB := hide (own_beyond (ds := fstsW ws) (es := fstsW bs) (src := src) (o := o))
  obtain ⟨D, hD⟩ : ∃ D, D = ownD (fstsW ws) (fstsW bs) src o := ⟨_, rfl⟩
  obtain ⟨F, hF⟩ : ∃ F, F = ownB (fstsW ws) (fstsW bs) src o := ⟨_, rfl⟩
  rw [← hD, ← hF]
  have HD := hide hD
  have HF := hide hF
  clear hD hF
  have BX : Below w.heap.size w (w.alloc (.cells #[.int .i64 0, .int .i64 0, .slice none 0 0] 93)) := (Below.refl _ _).alloc (Nat.le_refl _) _
  have hq := heap_alloc_new w (.cells #[.int .i64 0, .int .i64 0, .slice none 0 0] 93)
  have hs0 := lt_of_heap hq
  unfold wayC at H1 H2
  by_cases ho : o = src
  · subst ho
    have hDe : D = ⟨o, 0, []⟩ := HD.out.trans HS.out.1
    have hFe : F = true := HF.out.trans HS.out.2
    subst hDe hFe
    have hd : (o == o) = true := by simp
    have FF := hide (heap_alloc_new w (.cells (wayC ⟨o, 0, []⟩ (.slice none 0 0)) 93))
    clear H1 H2 HS HW HB HD HF hq BX hs0
    unfold wayC
    go_enter Tryd.func61, Tryd.ntmps61
    go_wp2_with fail
    (try simp only [Exit.inBlock, Exit.then])
    refine bodyPost_ret (results_cell_row_tmpW rfl _ _ w.heap.size 93 (wayC ⟨o, 0, []⟩ (.slice none 0 0)) (0, 0) _ rfl FF.out Tryd.underlying93 rfl (by kernel_rfl)) rfl ?_
    exact ⟨.slice none 0 0, rfl, World.ownsRow_nil _ _ _ _, (Below.refl _ _).alloc (Nat.le_refl _) _⟩
  have hd : (o == src) = false := by simpa using ho
  have HO := hide ho
  clear ho
  obtain ⟨w0, hw0⟩ : ∃ W, W = w.alloc (.cells #[.int .i64 0, .int .i64 0, .slice none 0 0] 93) := ⟨_, rfl⟩
  rw [← hw0] at BX hq hs0
  have C1 := H1.out w0 BX
  obtain ⟨D1, hD1⟩ : ∃ D, D = wayToD (fstsW ws) o := ⟨_, rfl⟩
  obtain ⟨F1, hF1⟩ : ∃ F, F = wayToB (fstsW ws) o := ⟨_, rfl⟩
  rw [← hD1, ← hF1] at C1
  have HC1 := hide C1
  have HQ := hide hq
  have HD1 := hide hD1
  have HF1 := hide hF1
  have HBX := hide BX
  clear C1 hq hD1 hF1 H1 HS
  unfold wayC
  go_enter Tryd.func61, Tryd.ntmps61
  go_wp2_with fail
  rw [← hw0]
  refine HC1.out.mono ?_
  rintro e w2 ⟨x1, rfl, ho1, b1⟩
  obtain ⟨xa, xc, rfl⟩ := owns_lenS ho1
  have hb1 := b1.size
  have BA := (Below.refl w2.heap.size w2).alloc (Nat.le_refl _) (.cells #[.int .i64 D1.to, .int .i64 D1.cost, .slice xa D1.hops.length xc] 93)
  have hz2 := (b1.block _ hs0).trans HQ.out
  have hz3 := (BA.block _ (lt_of_heap hz2)).trans hz2
  have hbx := HBX.out.size
  have B2 : Below w.heap.size w w2 := HBX.out.trans (b1.mono hbx)
  have hl2 := lt_of_heap hz2
  cases F1
  · have hh := HB.out HO.out HF1.out.symm
    have hDe := HD.out.trans hh.1
    have hFe := HF.out.trans hh.2
    have C2 := H2.out (w2.alloc (.cells #[.int .i64 D1.to, .int .i64 D1.cost, .slice xa D1.hops.length xc] 93)) (B2.trans (BA.mono (by omega)))
    rw [← hDe, ← hFe] at C2
    have HC2 := hide C2
    have HZ3 := hide hz3
    have HBA := hide BA
    have HB2 := hide B2
    clear C2 hh hDe hFe H2 HB HW ho1 hz2 hz3 BA B2 HC1
    go_wp2_with fail
    refine HC2.out.mono ?_
    rintro e w4 ⟨x2, rfl, ho2, b2⟩
    obtain ⟨ya, yc, rfl⟩ := owns_lenS ho2
    have hb2 := b2.size
    have hba := HBA.out.size
    have hz4 := (b2.block _ (lt_of_heap HZ3.out)).trans HZ3.out
    have u0 := cells_at hz4 0
    have u1 := cells_at hz4 1
    have u2 := cells_at hz4 2
    simp at u0 u1 u2
    have fu := frozen_at hz4
    have EE := own_end w.heap.size D (.slice ya D.hops.length yc) hz4 (owns_baseS ho2 (by omega))
    have FF := hide EE.1
    have OO := hide EE.2.1
    have BB := hide ((HB2.out.trans ((HBA.out.mono (by omega)).trans (b2.mono (by omega)))).trans EE.2.2)
    clear EE hz4 ho2 b2 HZ3 HBA HB2 HC2
    go_wp2_with fail
    (try simp only [Exit.inBlock, Exit.then])
    refine bodyPost_ret (results_cell_row_tmpW rfl _ _ w.heap.size 93 (wayC D (.slice ya D.hops.length yc)) (0, 0) _ rfl FF.out Tryd.underlying93 rfl (by kernel_rfl)) rfl ?_
    exact ⟨_, rfl, OO.out, BB.out⟩
  · have hh := HW.out HO.out HF1.out.symm
    have hDe : D1 = D := HD1.out.trans (HD.out.trans hh.1).symm
    have hFe : F = true := HF.out.trans hh.2
    subst hDe hFe
    have hx := heap_alloc_new w2 (.cells #[.int .i64 D1.to, .int .i64 D1.cost, .slice xa D1.hops.length xc] 93)
    have e0 := cells_at hx 0
    have e1 := cells_at hx 1
    have e2 := cells_at hx 2
    simp at e0 e1 e2
    have u0 := cells_at hz2 0
    have u1 := cells_at hz2 1
    have u2 := cells_at hz2 2
    simp at u0 u1 u2
    have fu := frozen_at hz2
    have hzn : w.heap.size ≠ w2.heap.size := by omega
    have EE := own_end w.heap.size D1 (.slice xa D1.hops.length xc) hz2 (owns_baseS ho1 (by omega))
    have FF := hide (show ((putW3 w2 w.heap.size D1 (.slice xa D1.hops.length xc)).alloc (.cells #[.int .i64 D1.to, .int .i64 D1.cost, .slice xa D1.hops.length xc] 93)).heap[w.heap.size]? = some (.cells (wayC D1 (.slice xa D1.hops.length xc)) 93) by rw [Below.heap_alloc _ _ _ (lt_of_heap EE.1)]; exact EE.1)
    have OO := hide (EE.2.1.alloc (.cells #[.int .i64 D1.to, .int .i64 D1.cost, .slice xa D1.hops.length xc] 93))
    have BB := hide ((B2.trans EE.2.2).alloc (Nat.le_of_lt (lt_of_heap EE.1)) (.cells #[.int .i64 D1.to, .int .i64 D1.cost, .slice xa D1.hops.length xc] 93))
    clear EE hz2 hz3 ho1 b1 H2 HB HW HC1 BA B2 hx
    go_wp2_with fail
    (try simp only [Exit.inBlock, Exit.then])
    refine bodyPost_ret (results_cell_row_tmpW rfl _ _ w.heap.size 93 (wayC D1 (.slice xa D1.hops.length xc)) (0, 0) _ rfl FF.out Tryd.underlying93 rfl (by kernel_rfl)) rfl ?_
    exact ⟨_, rfl, OO.out, BB.out⟩

end Go.Proofs.YthmmpmbnpfhloaaDoor
namespace Go.Proofs.YthmmpmbnpfhloaaDoor
open Go.RowKit

set_option linter.unusedSimpArgs false

/-- impl.orderOfOffers -/
def ordQ (a b : RtD) : Int :=
  if orN [cmpN a.to b.to, cmpN a.kind b.kind] = 0 then
    (if a.kind = 4 then orN [cmpN a.far b.far, cmpN a.cost b.cost] else if a.kind = 3 then orN [0, cmpN a.cost b.cost] else 0)
  else orN [cmpN a.to b.to, cmpN a.kind b.kind]

theorem orN_two (x y : Int) : orN [x, y] = if x = 0 then y else x := by
  unfold orN orN orN
  split
  · split
    · rename_i h; exact h.symm
    · rfl
  · rfl

def farQ (a : RtD) : Int := if a.kind = 4 then a.far else 0
def costQ (a : RtD) : Int := if a.kind = 4 ∨ a.kind = 3 then a.cost else 0

theorem cmpN_lt (a b : Int) : cmpN a b < 0 ↔ a < b := by
  unfold cmpN
  split
  · omega
  · split <;> omega
theorem cmpN_eq (a b : Int) : cmpN a b = 0 ↔ a = b := by
  unfold cmpN
  split
  · omega
  · split <;> omega

theorem ordQ_lt (a b : RtD) : ordQ a b < 0 ↔ a.to < b.to ∨ (a.to = b.to ∧ (a.kind < b.kind ∨ (a.kind = b.kind ∧ (farQ a < farQ b ∨ (farQ a = farQ b ∧ costQ a < costQ b))))) := by
  unfold ordQ
  simp only [orN_two]
  have t1 := cmpN_lt a.to b.to
  have t2 := cmpN_eq a.to b.to
  have k1 := cmpN_lt a.kind b.kind
  have k2 := cmpN_eq a.kind b.kind
  have f1 := cmpN_lt a.far b.far
  have f2 := cmpN_eq a.far b.far
  have c1 := cmpN_lt a.cost b.cost
  by_cases e1 : cmpN a.to b.to = 0
  · have e1' := t2.1 e1
    simp only [e1, if_true]
    by_cases e2 : cmpN a.kind b.kind = 0
    · have e2' := k2.1 e2
      simp only [e2, if_true]
      unfold farQ costQ
      rw [← e2']
      by_cases h4 : a.kind = 4
      · simp only [h4, if_true, true_or, true_and]
        by_cases e3 : cmpN a.far b.far = 0
        · have e3' := f2.1 e3
          simp only [e3, if_true]
          omega
        · have : a.far ≠ b.far := fun h => e3 (f2.2 h)
          simp only [e3, if_false]
          omega
      · simp only [h4, if_false, false_or]
        by_cases h3 : a.kind = 3
        · simp only [h3, if_true, true_and]
          omega
        · simp only [h3, if_false]
          omega
    · have : a.kind ≠ b.kind := fun h => e2 (k2.2 h)
      simp only [e2, if_false]
      omega
  · have : a.to ≠ b.to := fun h => e1 (t2.2 h)
    simp only [e1, if_false]
    omega

theorem ordQ_eq (a b : RtD) : ordQ a b = 0 ↔ a.to = b.to ∧ a.kind = b.kind ∧ farQ a = farQ b ∧ costQ a = costQ b := by
  unfold ordQ
  simp only [orN_two]
  have t2 := cmpN_eq a.to b.to
  have k2 := cmpN_eq a.kind b.kind
  have f2 := cmpN_eq a.far b.far
  have c1 := cmpN_eq a.cost b.cost
  by_cases e1 : cmpN a.to b.to = 0
  · have e1' := t2.1 e1
    simp only [e1, if_true]
    by_cases e2 : cmpN a.kind b.kind = 0
    · have e2' := k2.1 e2
      simp only [e2, if_true]
      unfold farQ costQ
      rw [← e2']
      by_cases h4 : a.kind = 4
      · simp only [h4, if_true, true_or, true_and]
        by_cases e3 : cmpN a.far b.far = 0
        · have e3' := f2.1 e3
          simp only [e3, if_true]
          omega
        · have e3' : a.far ≠ b.far := fun h => e3 (f2.2 h)
          simp only [e3, if_false]
          exact ⟨fun h => h.elim, fun h => e3' (by omega)⟩
      · simp only [h4, if_false, false_or]
        by_cases h3 : a.kind = 3
        · simp only [h3, if_true, true_and]
          omega
        · simp only [h3, if_false]
          simp [e1']
    · have e2' : a.kind ≠ b.kind := fun h => e2 (k2.2 h)
      simp only [e2, if_false]
      exact ⟨fun h => h.elim, fun h => e2' h.2.1⟩
  · have e1' : a.to ≠ b.to := fun h => e1 (t2.2 h)
    simp only [e1, if_false]
    exact ⟨fun h => h.elim, fun h => e1' h.1⟩

/-- an element of a row of routes: the route, and the row of its hops -/
abbrev QS := RtD × Option Addr × Nat × Nat

instance : Inhabited QS := ⟨(zeroQD, none, 0, 0)⟩

/-- the ranked way that a route to a thing is -/
def wOf (q : RtD) : WayD := ⟨q.to, if q.kind = 4 then 4000000000000 + q.far * 1000000 + q.cost else 3000000000000 + q.cost, q.hops⟩

/-- routes to things as they are offered -/
structure OffR (q : RtD) : Prop where
  thing : q.thing = true
  kind : q.kind = 3 ∧ q.far = 0 ∨ q.kind = 4
  cost : 0 ≤ q.cost ∧ q.cost ≤ 61000
  far : 0 ≤ q.far ∧ q.far ≤ 1000
  asc : q.hops.Pairwise (· < ·)
  hop6 : Hop6 q.hops
  node : 1 ≤ q.to ∧ q.to ≤ 9

theorem OffR.rt {q : RtD} (h : OffR q) : rtOf (wOf q) = q := by
  obtain ⟨h1, h3, h4, h5, _, _, _⟩ := h
  obtain ⟨th, to, kind, cost, fa, hops⟩ := q
  simp only at h1 h3 h4 h5
  subst h1
  unfold rtOf wOf
  rcases h3 with ⟨h3, h6⟩ | h3
  · subst h3
    subst h6
    simp only [show ¬ ((3 : Int) = 4) by omega, if_false]
    rw [if_pos (by omega)]
    congr 1
    omega
  · subst h3
    simp only [if_true]
    rw [if_neg (by omega)]
    congr 1 <;> omega

/-- the order of offers, in ranks -/
theorem OffR.lt {a b : RtD} (ha : OffR a) (hb : OffR b) : ordQ a b < 0 ↔ a.to < b.to ∨ (a.to = b.to ∧ (wOf a).cost < (wOf b).cost) := by
  rw [ordQ_lt]
  unfold wOf farQ costQ
  have h1 := ha.kind
  have h2 := hb.kind
  have h3 := ha.cost
  have h4 := hb.cost
  have h5 := ha.far
  have h6 := hb.far
  rcases h1 with ⟨h1, g1⟩ | h1 <;> rcases h2 with ⟨h2, g2⟩ | h2 <;> simp only [h1, h2, if_true, show ¬ ((3 : Int) = 4) by omega, show ¬ ((4 : Int) = 3) by omega, if_false, or_true, true_or, true_and, false_and, or_false, and_false] <;> first | omega | (constructor <;> intro h <;> first | exact h.elim | omega)

theorem OffR.eq {a b : RtD} (ha : OffR a) (hb : OffR b) : ordQ a b = 0 ↔ a.to = b.to ∧ (wOf a).cost = (wOf b).cost := by
  rw [ordQ_eq]
  unfold wOf farQ costQ
  have h1 := ha.kind
  have h2 := hb.kind
  have h3 := ha.cost
  have h4 := hb.cost
  have h5 := ha.far
  have h6 := hb.far
  rcases h1 with ⟨h1, g1⟩ | h1 <;> rcases h2 with ⟨h2, g2⟩ | h2 <;> simp only [h1, h2, if_true, show ¬ ((3 : Int) = 4) by omega, show ¬ ((4 : Int) = 3) by omega, if_false, or_true, true_or, true_and, false_and, or_false, and_false] <;> first | omega | (constructor <;> intro h <;> first | exact h.elim | omega)

/-- offers in their order -/
def SortedQ (qs : List RtD) : Prop := qs.Pairwise (fun a b => ¬ ordQ b a < 0)

/-- the best of the first offers -/
def BestQ (qs : List RtD) (bs : List RtD) : Prop := IsBest (fun to d => ∃ q ∈ qs, d = wOf q ∧ q.to = to) (bs.map wOf)

theorem findW_push {ds : List WayD} {d : WayD} (h : ∀ x ∈ ds, x.to < d.to) (to : Int) : findW (ds ++ [d]) to = if to = d.to then moreW togI (findW ds to) (some d) else findW ds to := by
  rw [findW_append]
  by_cases e : to = d.to
  · rw [if_pos e]
    subst e
    have h1 : findW ds d.to = none := by
      cases e : findW ds d.to with
      | none => rfl
      | some x => have := findW_some e; have := h x this.1; omega
    rw [h1]
    simp [findW, moreW]
  · rw [if_neg e]
    have h2 : findW [d] to = none := by simp [findW]; omega
    rw [h2]
    simp

theorem findW_last {ds : List WayD} {d : WayD} (h : AscW (ds ++ [d])) : findW (ds ++ [d]) d.to = some d := findW_of h (by simp)

theorem ascW_last {ds : List WayD} {d e : WayD} (h : AscW (ds ++ [d])) (he : e.to = d.to) : AscW (ds ++ [e]) := by
  unfold AscW at *
  rw [List.pairwise_append] at *
  refine ⟨h.1, by simp, fun x hx y hy => ?_⟩
  have : y = e := by simpa using hy
  subst this
  rw [he]
  exact h.2.2 x hx d (by simp)

theorem findW_swap {ds : List WayD} {d e : WayD} (he : e.to = d.to) {to : Int} (hn : to ≠ d.to) : findW (ds ++ [e]) to = findW (ds ++ [d]) to := by
  rw [findW_append, findW_append]
  have h1 : findW [d] to = none := by simp [findW]; omega
  have h2 : findW [e] to = none := by simp [findW]; omega
  rw [h1, h2]

theorem wOf_hop6 {qs : List RtD} (hq : ∀ q ∈ qs, OffR q) : ∀ to w, (∃ q ∈ qs, w = wOf q ∧ q.to = to) → Hop6 w.hops := by
  rintro to w ⟨q, hq', rfl, _⟩
  exact (hq q hq').hop6

theorem bestQ_congr {qs : List RtD} {q : RtD} {ds : List WayD} (h : IsBest (fun to d => (∃ x ∈ qs, d = wOf x ∧ x.to = to) ∨ (d = wOf q ∧ (wOf q).to = to)) ds) : IsBest (fun to d => ∃ x ∈ qs ++ [q], d = wOf x ∧ x.to = to) ds :=
  h.congr (fun to d => by
    constructor
    · rintro (⟨x, h1, h2⟩ | ⟨h1, h2⟩)
      · exact ⟨x, List.mem_append.2 (.inl h1), h2⟩
      · exact ⟨q, by simp, h1, h2⟩
    · rintro ⟨x, h1, h2⟩
      rcases List.mem_append.1 h1 with h3 | h3
      · exact .inl ⟨x, h3, h2⟩
      · have : x = q := by simpa using h3
        subst this
        exact .inr h2)

/-- an offer of another thing -/
theorem BestQ.push {qs bs : List RtD} {q : RtD} (h : BestQ qs bs) (hq : ∀ x ∈ qs, OffR x) (ho : OffR q) (hlt : ∀ b ∈ bs, b.to < q.to) : BestQ (qs ++ [q]) (bs ++ [q]) := by
  unfold BestQ at *
  refine bestQ_congr (h.putT togOk_I (wOf_hop6 hq) ho.asc ho.hop6 ?_ ?_)
  · rw [List.map_append]
    unfold AscW
    rw [List.pairwise_append]
    refine ⟨h.1, by simp, fun x hx y hy => ?_⟩
    obtain ⟨b, hb, rfl⟩ := List.mem_map.1 hx
    have : y = wOf q := by simpa using hy
    subst this
    exact hlt b hb
  · intro to
    rw [List.map_append]
    exact findW_push (fun x hx => by
      obtain ⟨b, hb, rfl⟩ := List.mem_map.1 hx
      exact hlt b hb) to

/-- one as good as the last -/
theorem BestQ.join {qs bs : List RtD} {b q : RtD} (h : BestQ qs (bs ++ [b])) (hq : ∀ x ∈ qs, OffR x) (hb : OffR b) (ho : OffR q) (he : ordQ b q = 0) : BestQ (qs ++ [q]) (bs ++ [{ b with hops := hopsI b.hops q.hops }]) := by
  have e := (hb.eq ho).1 he
  unfold BestQ at *
  rw [List.map_append] at h ⊢
  simp only [List.map_cons, List.map_nil] at h ⊢
  obtain ⟨j, hj⟩ : ∃ j, j = wOf { b with hops := hopsI b.hops q.hops } := ⟨_, rfl⟩
  have hjt : j.to = (wOf b).to := by rw [hj]; rfl
  have hl : j = togI (wOf b) (wOf q) := by
    rw [hj]
    unfold togI betterB
    rw [if_neg (by simp; omega), if_neg (by simp; omega)]
    rfl
  rw [← hj]
  have hA := ascW_last h.1 hjt
  refine bestQ_congr (h.putT togOk_I (wOf_hop6 hq) ho.asc ho.hop6 hA ?_)
  intro to
  by_cases e2 : to = (wOf q).to
  · rw [if_pos e2]
    have h1 : to = (wOf b).to := e2.trans e.1.symm
    subst h1
    rw [findW_last h.1, ← hjt, findW_last hA, hl]
    rfl
  · rw [if_neg e2]
    exact findW_swap hjt (by rw [show (wOf b).to = (wOf q).to from e.1]; exact e2)

/-- one that is worse than the last -/
theorem BestQ.pass {qs bs : List RtD} {b q : RtD} (h : BestQ qs (bs ++ [b])) (hq : ∀ x ∈ qs, OffR x) (hb : OffR b) (ho : OffR q) (ht : b.to = q.to) (he : ordQ b q < 0) : BestQ (qs ++ [q]) (bs ++ [b]) := by
  have e := (hb.lt ho).1 he
  unfold BestQ at *
  have hA := h.1
  refine bestQ_congr (h.putT togOk_I (wOf_hop6 hq) ho.asc ho.hop6 hA ?_)
  intro to
  by_cases e2 : to = (wOf q).to
  · rw [if_pos e2]
    subst e2
    have h1 : (wOf q).to = (wOf b).to := ht.symm
    rw [List.map_append] at hA ⊢
    simp only [List.map_cons, List.map_nil] at hA ⊢
    rw [h1, findW_last hA]
    show some (wOf b) = some (togI (wOf b) (wOf q))
    unfold togI betterB
    rw [if_pos (by simp; omega)]
  · rw [if_neg e2]
end Go.Proofs.YthmmpmbnpfhloaaDoor
namespace Go.Proofs.YthmmpmbnpfhloaaDoor
open Go.RowKit

set_option linter.unusedSimpArgs false

theorem encQ_one (x : RtD) (a : Option Addr) (n c : Nat) : ∀ u ∈ encQ (x, .slice a n c), u.oneCell' = true := by
  intro u hu
  simp only [encQ, List.mem_cons, List.not_mem_nil, or_false] at hu
  rcases hu with rfl | rfl | rfl | rfl | rfl | rfl <;> rfl

/-- the route to a node, its hops those of the way -/
def nodeQ (kind : Int) (p : WP) : QP := (⟨false, p.1.to, kind, p.1.cost, 0, p.1.hops⟩, p.2)

def nodesQ (kind src : Int) (ws : List WP) : List QP := (ws.filter (fun p => p.1.to != src)).map (nodeQ kind)

theorem nodesQ_fst (kind src : Int) (ws : List WP) : fstsQ (nodesQ kind src ws) = nodesR kind src (fstsW ws) := by
  unfold fstsQ nodesQ nodesR fstsW
  rw [List.filter_map, List.map_map, List.map_map]
  rfl

theorem nodesQ_len (kind src : Int) (ws : List WP) : (nodesQ kind src ws).length ≤ ws.length := by
  unfold nodesQ
  rw [List.length_map]
  exact List.length_filter_le _ _

theorem nodesQ_yes {kind src : Int} {ws : List WP} {k : Nat} {p : WP} (h : ws[k]? = some p) (hn : p.1.to ≠ src) : nodesQ kind src (ws.take (k + 1)) = nodesQ kind src (ws.take k) ++ [nodeQ kind p] := by
  obtain ⟨hk, e⟩ := List.getElem?_eq_some_iff.1 h
  unfold nodesQ
  rw [List.take_succ_eq_append_getElem hk, e, List.filter_append, List.map_append]
  simp [hn]

theorem nodesQ_no {kind src : Int} {ws : List WP} {k : Nat} {p : WP} (h : ws[k]? = some p) (hn : p.1.to = src) : nodesQ kind src (ws.take (k + 1)) = nodesQ kind src (ws.take k) := by
  obtain ⟨hk, e⟩ := List.getElem?_eq_some_iff.1 h
  unfold nodesQ
  rw [List.take_succ_eq_append_getElem hk, e, List.filter_append, List.map_append]
  simp [hn]

theorem nodesQ_hop {W : World} {lo hi : Nat} {v : Value} {ws : List WP} (h : WaysOwn W lo hi v ws) (kind src : Int) : ∀ q ∈ nodesQ kind src ws, RHopOwn W lo hi q := by
  intro q hq
  unfold nodesQ at hq
  obtain ⟨p, hp, rfl⟩ := List.mem_map.1 hq
  exact h.nears p (List.mem_filter.1 hp).1

theorem nodesQ_apart {W : World} {lo hi : Nat} {v : Value} {ws : List WP} (h : WaysOwn W lo hi v ws) (kind src : Int) : (nodesQ kind src ws).Pairwise ApartQ := by
  unfold nodesQ
  rw [List.pairwise_map]
  exact (h.apart.sublist (List.filter_sublist)).imp (fun h => h)

end Go.Proofs.YthmmpmbnpfhloaaDoor
namespace Go.Proofs.YthmmpmbnpfhloaaDoor
open Go.RowKit

theorem nodesR_mem {kind src : Int} {ds : List WayD} {r : RtD} (h : r ∈ nodesR kind src ds) : ∃ d ∈ ds, d.to ≠ src ∧ r = ⟨false, d.to, kind, d.cost, 0, d.hops⟩ := by
  unfold nodesR at h
  obtain ⟨d, hd, rfl⟩ := List.mem_map.1 h
  obtain ⟨h1, h2⟩ := List.mem_filter.1 hd
  exact ⟨d, h1, by simpa using h2, rfl⟩

end Go.Proofs.YthmmpmbnpfhloaaDoor
