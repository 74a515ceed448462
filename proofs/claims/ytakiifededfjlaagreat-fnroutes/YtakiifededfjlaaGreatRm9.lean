/-
  What is beyond: the sets of ways that records tell of.
  What a border tells into an area: the records, determined by the sets of ways.
  The drawn region of spec.RoutesBeyond, in every order.
  One way more at the end of a list of the caller's own.
  append of one struct, with word on the block of what comes out.
  spec.WaysIn: the region that puts a way to the answer.
-/
import Derived.Test.YtakiifededfjlaaGreatRm8
import Derived.Test.YtakiifededfjlaaGreatRm5
import Derived.Test.YtakiifededfjlaaGreatRm2
import Derived.Test.YtakiifededfjlaaGreatRm6
import Derived.Test.YtakiifededfjlaaGreatRm7
import Derived.Maps.AppendAt
namespace Go.Proofs.YtakiifededfjlaaGreat
open Go.RowKit
set_option linter.unusedSimpArgs false
set_option linter.unusedVariables false
set_option maxRecDepth 100000
set_option maxHeartbeats 8000000
def Zct (xs : List RecD) (area src : Int) (r : RecD) (d : WayD) : Prop :=
 r.kind = 2 /\ r.area = area /\ r.owner ≠ src /\ ∃ v, ZaI (ZbR xs area src) r.owner = some v /\ v.cost + r.cost < 60000 /\ d = ⟨r.key, v.cost + r.cost, v.hops⟩
def outS (xs rs : List RecD) (area src to : Int) (d : WayD) : Prop := d.to = to /\ ∃ r ∈ rs, Zct xs area src r d
theorem Zfn {xs : List RecD} {r : RecD} (hs : ZaE xs = true) (hr : r ∈ xs) (hk : r.kind = 2) : (1 <= r.key /\ r.key <= 6) /\ (0 <= r.cost /\ r.cost <= 60000) := by
 unfold ZaE at hs
 simp only [Bool.and_eq_true] at hs
 have hok := Zdn hs.1.2 hr
 unfold Za3 at hok
 rw [if_neg (by omega), if_pos hk] at hok
 simp only [Bool.and_eq_true, inB, decide_eq_true_eq] at hok
 omega
theorem ZdS {xs : List RecD} {area src : Int} {r : RecD} {d : WayD} (hr : r ∈ xs) (h : Zct xs area src r d) : GoodW d := by
 obtain ⟨h1, _, _, v, h4, h5, rfl⟩ := h
 have hm := (ZaL h4).1
 have hv := ((Zby xs area src).2 v hm).1
 have hb := Zfn (ZcE hm).1 hr h1
 exact ⟨hb.1, ⟨by show 0 <= v.cost + r.cost; have := hv.cost; omega, by show v.cost + r.cost <= 60000; omega⟩, hv.asc, hv.hop6⟩
theorem ZeN {xs rs : List RecD} {area src to : Int} {d : WayD} (hs : ∀ r ∈ rs, r ∈ xs) (h : outS xs rs area src to d) : GoodW d /\ d.to = to := by
 obtain ⟨h1, r, hr, h2⟩ := h
 exact ⟨ZdS (hs r hr) h2, h1⟩
theorem Zib {xs rs : List RecD} {area src to : Int} {k : Nat} {r : RecD} (h : rs[k]? = some r) (d : WayD) : outS xs (rs.take (k + 1)) area src to d ↔ outS xs (rs.take k) area src to d \/ (d.to = to /\ Zct xs area src r d) := by
 obtain ⟨hk, e⟩ := List.getElem?_eq_some_iff.1 h
 unfold outS
 rw [List.take_succ_eq_append_getElem hk, e]
 constructor
 ·rintro ⟨h1, x, h2, h3⟩
  rcases List.mem_append.1 h2 with h4 | h4
  ·exact .inl ⟨h1, x, h4, h3⟩
  ·have : x = r := by simpa using h4
   subst this
   exact .inr ⟨h1, h3⟩
 ·rintro (⟨h1, x, h2, h3⟩ | ⟨h1, h3⟩)
  ·exact ⟨h1, x, List.mem_append.2 (.inl h2), h3⟩
  ·exact ⟨h1, r, List.mem_append.2 (.inr (by simp)), h3⟩
def Zh6 (border : Bool) (a : Int) : Prop := border = true -> a = 0
def Zbf (xs : List RecD) (al : List Int) (border : Bool) (src to : Int) (d : WayD) : Prop := (∀ x, ¬ Zar xs al src to x) /\ ∃ a ∈ al, Zh6 border a /\ outS xs xs a src to d
theorem Za5 {xs : List RecD} {al : List Int} {border : Bool} {src to : Int} {d : WayD} (h : Zbf xs al border src to d) : GoodW d /\ d.to = to := by
 obtain ⟨_, a, _, _, h2⟩ := h
 exact ZeN (fun _ h => h) h2
theorem Zgr {xs rs : List RecD} {area src to : Int} {d : WayD} (h : outS xs rs area src to d) : ZaE xs = true /\ 0 <= area /\ area < 3 := by
 obtain ⟨_, r, _, _, _, _, v, h4, _⟩ := h
 exact ZcE (ZaL h4).1
def ZgB (xs : List RecD) (al : List Int) (border : Bool) (src to : Int) (d : WayD) : Prop := ∃ a ∈ al, Zh6 border a /\ outS xs xs a src to d
theorem ZkP {xs : List RecD} {al : List Int} {border : Bool} {src to : Int} {d : WayD} (h : ZgB xs al border src to d) : GoodW d /\ d.to = to := by
 obtain ⟨a, _, _, h2⟩ := h
 exact ZeN (fun _ h => h) h2
theorem ZgS {xs : List RecD} {al : List Int} {border : Bool} {src to a : Int} {k : Nat} (h : al[k]? = some a) (d : WayD) : ZgB xs (al.take (k + 1)) border src to d ↔ ZgB xs (al.take k) border src to d \/ (Zh6 border a /\ outS xs xs a src to d) := by
 obtain ⟨hk, e⟩ := List.getElem?_eq_some_iff.1 h
 unfold ZgB
 rw [List.take_succ_eq_append_getElem hk, e]
 constructor
 ·rintro ⟨b, h2, h3, h4⟩
  rcases List.mem_append.1 h2 with h5 | h5
  ·exact .inl ⟨b, h5, h3, h4⟩
  ·have : b = a := by simpa using h5
   subst this
   exact .inr ⟨h3, h4⟩
 ·rintro (⟨b, h2, h3, h4⟩ | ⟨h3, h4⟩)
  ·exact ⟨b, List.mem_append.2 (.inl h2), h3, h4⟩
  ·exact ⟨a, List.mem_append.2 (.inr (by simp)), h3, h4⟩
theorem Zjk {tog : WayD -> WayD -> WayD} (ht : Zja tog) {xs : List RecD} {area src to : Int} {k : Nat} {r : RecD} {o : Option WayD} {S0 : WayD -> Prop} (hS0 : ∀ d, S0 d -> GoodW d /\ d.to = to) (h : xs[k]? = some r) (hb : ZaD to (fun d => S0 d \/ outS xs (xs.take k) area src to d) o) {d : WayD} (hd : Zct xs area src r d) (hto : d.to = to) :
  ZaD to (fun d => S0 d \/ outS xs (xs.take (k + 1)) area src to d) (Zd9 tog o (some d)) := by
 have hg := ZdS (List.mem_of_getElem? h) hd
 refine (hb.add ht (fun w hw => ?_) hto hg.asc hg.hop6).congr (fun w => ?_)
 ·rcases hw with h1 | h1
  ·exact (hS0 w h1).1.hop6
  ·exact (ZeN (fun r hr => List.mem_of_mem_take hr) h1).1.hop6
 ·rw [Zib h]
  have huniq : ∀ w, Zct xs area src r w -> w = d := by
   rintro w ⟨_, _, _, v, h4, _, rfl⟩
   obtain ⟨_, _, _, v', h4', _, rfl⟩ := hd
   rw [h4] at h4'
   cases h4'
   rfl
  constructor
  ·rintro ((h1 | h1) | h1)
   ·exact .inl h1
   ·exact .inr (.inl h1)
   ·subst h1; exact .inr (.inr ⟨hto, hd⟩)
  ·rintro (h1 | h1 | ⟨_, h1⟩)
   ·exact .inl (.inl h1)
   ·exact .inl (.inr h1)
   ·exact .inr (huniq w h1)
theorem ZbF {xs : List RecD} {area src to : Int} {k : Nat} {r : RecD} {o : Option WayD} {S0 : WayD -> Prop} (h : xs[k]? = some r) (hb : ZaD to (fun d => S0 d \/ outS xs (xs.take k) area src to d) o) (hn : ∀ d, d.to = to -> ¬ Zct xs area src r d) :
  ZaD to (fun d => S0 d \/ outS xs (xs.take (k + 1)) area src to d) o := by
 refine hb.congr (fun w => ?_)
 rw [Zib h]
 constructor
 ·rintro (h1 | h1)
  ·exact .inl h1
  ·exact .inr (.inl h1)
 ·rintro (h1 | h1 | ⟨h1, h2⟩)
  ·exact .inl h1
  ·exact .inr h1
  ·exact absurd h2 (hn w h1)
structure BoxT (W : World) (z lo : Nat) (b : WayD) (bv : Value) : Prop where
 box : W.heap[z]? = some (.cells (wayC b bv) 46)
 own : W.ownsRow lo 3 1 bv b.hops.length (flat intE b.hops)
 len : b.hops.length <= 6
theorem BoxT.below {W W' : World} {z lo : Nat} {b : WayD} {bv : Value} (h : BoxT W z lo b bv) (hb : Below W.heap.size W W') : BoxT W' z lo b bv :=
 ⟨(hb.block _ (Zab h.box)).trans h.box, Zae h.own hb (Nat.le_refl _), h.len⟩
theorem BoxT.other {W W' : World} {z g lo : Nat} {b : WayD} {bv : Value} {cs : Array Value} {T : TypeId} {fr : Nat × Nat} (h : BoxT W z lo b bv) (hg : W.grownBy W' (some g)) (hgz : z ≠ g) (hbox : W.heap[g]? = some (.cells cs T fr)) (hT : (3 : TypeId) ≠ T) : BoxT W' z lo b bv :=
 ⟨(hg.block z (Zab h.box) (by simp; omega)).trans h.box, Zap h.own (fun j hj => hg.block j (h.own.lt j hj).2 (fun e => Zaq h.own hbox hT (by rw [hj]; exact e.symm))), h.len⟩
theorem BoxT.put {W : World} {z lo : Nat} {b : WayD} {bv : Value} (h : BoxT W z lo b bv) {d : WayD} {u : Value} (hu : W.ownsRow lo 3 1 u d.hops.length (flat intE d.hops)) (hl : d.hops.length <= 6) : BoxT (Za0 W z d u) z lo d u := by
 have hb := h.box
 unfold wayC at hb
 have hg := ZaX W z d u
 exact ⟨Zc7 d u hb, Zap hu (fun j hj => hg.block j (hu.lt j hj).2 (fun e => Zaq hu h.box (by decide) (by rw [hj]; exact e.symm))), hl⟩
theorem Zef {W : World} {z g : Nat} {d : WayD} {u : Value} {o : Obj} (h : W.heap[g]? = some o) (hne : g ≠ z) : (Za0 W z d u).heap[g]? = some o := ((ZaX W z d u).block g (Zab h) (by simp; omega)).trans h
def ZfQ (xs : List RecD) (area src to : Int) : Prop := ∀ d, d ∈ ZbR xs area src -> d.to ≠ to
def Zcn (area src to c : Int) : RecD := ⟨area, 2, src, to, 0, [], c, false⟩
def Zde (xs : List RecD) (al : List Int) (src area to c : Int) : Prop := ZfQ xs area src to /\ to ≠ src /\
 ((∃ w, ZaD to (Zar xs al src to) (some w) /\ c = w.cost) \/ (area ≠ 0 /\ ∃ w, ZaD to (Zbf xs al true src to) (some w) /\ c = w.cost))
def Zc3 (xs : List RecD) (al : List Int) (src area : Int) (ds : List RecD) : Prop := Asc ds /\ ∀ r, r ∈ ds ↔ ∃ to c, r = Zcn area src to c /\ Zde xs al src area to c
theorem Zke : ∀ {a b : List RecD}, Asc a -> Asc b -> (∀ x, x ∈ a ↔ x ∈ b) -> a = b
 | [], [], _, _, _ => rfl
 | [], y :: ys, _, _, h => by have := (h y).2 (by simp); cases this
 | x :: xs, [], _, _, h => by have := (h x).1 (by simp); cases this
 | x :: xs, y :: ys, ha, hb, h => by
  have ha' := List.pairwise_cons.1 ha
  have hb' := List.pairwise_cons.1 hb
  have irr : ∀ z : RecD, Zaz z z = true -> False := fun z hz => by
   have := (ZfZ (x := z) (y := z) (by simp [Zba])).1
   rw [this] at hz; cases hz
  have hxy : x = y := by
   have h1 := (h x).1 (by simp)
   have h2 := (h y).2 (by simp)
   rcases List.mem_cons.1 h1 with e | e
   ·exact e
   ·rcases List.mem_cons.1 h2 with e2 | e2
    ·exact e2.symm
    ·exact (irr x (ZiH (ha'.1 y e2) (hb'.1 x e))).elim
  subst hxy
  have : xs = ys := by
   refine Zke ha'.2 hb'.2 (fun z => ?_)
   have hz := h z
   constructor
   ·intro hm
    have h1 := hz.1 (List.mem_cons_of_mem _ hm)
    rcases List.mem_cons.1 h1 with e | e
    ·have := ha'.1 z hm; subst e; exact (irr z this).elim
    ·exact e
   ·intro hm
    have h1 := hz.2 (List.mem_cons_of_mem _ hm)
    rcases List.mem_cons.1 h1 with e | e
    ·have := hb'.1 z hm; subst e; exact (irr z this).elim
    ·exact e
  rw [this]
theorem Zc3.unique {xs : List RecD} {al : List Int} {src area : Int} {a b : List RecD} (ha : Zc3 xs al src area a) (hb : Zc3 xs al src area b) : a = b :=
 Zke ha.1 hb.1 (fun r => by rw [ha.2, hb.2])
theorem ZeM {to : Int} {S : WayD -> Prop} {w : WayD} (h : ZaD to S (some w)) (hS : ∀ d, S d -> GoodW d /\ d.to = to) : GoodW w /\ w.to = to := ⟨h.good hS, h.1⟩
theorem ZcG {xs : List RecD} {al : List Int} {src area to c : Int} (h : Zde xs al src area to c) : 1 <= to /\ to <= 6 := by
 obtain ⟨_, _, ⟨w, h1, _⟩ | ⟨_, w, h1, _⟩⟩ := h
 ·have hg := ZeM h1 (fun d h => ZaH h)
  rw [<- hg.2]; exact hg.1.node
 ·have hg := ZeM h1 (fun d h => Za5 h)
  rw [<- hg.2]; exact hg.1.node
theorem Zjl {xs : List RecD} {al : List Int} {src area to c c' : Int} (h : Zde xs al src area to c) (h' : Zde xs al src area to c') : c = c' := by
 have hno : ∀ {w v : WayD}, ZaD to (Zar xs al src to) (some w) -> ZaD to (Zbf xs al true src to) (some v) -> False := by
  intro w v h1 h2
  obtain ⟨_, ⟨u, hu, _⟩, _⟩ := h1
  obtain ⟨_, ⟨u', hu', _⟩, _⟩ := h2
  exact hu'.1 u hu
 obtain ⟨_, _, ⟨w, h1, rfl⟩ | ⟨_, w, h1, rfl⟩⟩ := h
 ·obtain ⟨_, _, ⟨v, h2, rfl⟩ | ⟨_, v, h2, rfl⟩⟩ := h'
  ·have := h1.unique h2; cases this; rfl
  ·exact (hno h1 h2).elim
 ·obtain ⟨_, _, ⟨v, h2, rfl⟩ | ⟨_, v, h2, rfl⟩⟩ := h'
  ·exact (hno h2 h1).elim
  ·have := h1.unique h2; cases this; rfl
theorem ZdK {area src a b c d : Int} : Zaz (Zcn area src a c) (Zcn area src b d) = decide (a < b) := by
 simp [Zaz, Zcn]
 try exact decide_eq_decide.2 Iff.rfl
theorem Zc3.tot {xs : List RecD} {al : List Int} {src area : Int} {ds : List RecD} (h : Zc3 xs al src area ds) : ds.length <= 6 /\ ∀ r ∈ ds, r.near = [] := by
 constructor
 ·have h1 : (ds.map (·.key)).Pairwise (· < ·) := by
   rw [List.pairwise_map]
   refine List.Pairwise.imp_of_mem ?_ h.1
   intro a b ha hb hab
   obtain ⟨to, c, rfl, _⟩ := (h.2 a).1 ha
   obtain ⟨to', c', rfl, _⟩ := (h.2 b).1 hb
   rw [ZdK] at hab
   exact of_decide_eq_true hab
  have h2 := Zc4 h1 (fun z hz => by
   obtain ⟨r, hr, rfl⟩ := List.mem_map.1 hz
   obtain ⟨to, c, rfl, ht⟩ := (h.2 r).1 hr
   exact ZcG ht)
  simpa using h2
 ·intro r hr
  obtain ⟨to, c, rfl, _⟩ := (h.2 r).1 hr
  rfl
theorem ZgJ {xs : List RecD} {al : List Int} {src area to : Int} (hn : ZfQ xs area src to) (d : WayD) : Zar xs (al.filter (fun a => a != area)) src to d ↔ Zar xs al src to d := by
 constructor
 ·rintro ⟨h1, a, h2, h3⟩
  exact ⟨h1, a, (List.mem_filter.1 h2).1, h3⟩
 ·rintro ⟨h1, a, h2, h3⟩
  refine ⟨h1, a, List.mem_filter.2 ⟨h2, ?_⟩, h3⟩
  have : a ≠ area := fun e => by subst e; exact hn d h3 h1
  simpa using this
theorem Znb (xs : List RecD) (area src to : Int) : (Za6 (ZbR xs area src) to = true /\ ¬ ZfQ xs area src to) \/ (Za6 (ZbR xs area src) to = false /\ ZfQ xs area src to) := by
 rcases ZbI (ZbR xs area src) to with ⟨h1, h2⟩ | ⟨h1, h2⟩
 ·have h3 := ZaL h2
  exact .inl ⟨h1, fun h => h _ h3.1 h3.2⟩
 ·exact .inr ⟨h1, fun d hd => Zcf h2 d hd⟩
theorem Zka {S : Int -> WayD -> Prop} {ds : List WayD} (h : Zav S ds) (to : Int) : (Za6 ds to = true /\ ZaD to (S to) (some (Za8 ds to))) \/ (Za6 ds to = false /\ ∀ d, ¬ S to d) := by
 have hb := h.2 to
 rcases ZbI ds to with ⟨h1, h2⟩ | ⟨h1, h2⟩
 ·rw [h2] at hb
  exact .inl ⟨h1, hb⟩
 ·rw [h2] at hb
  exact .inr ⟨h1, hb⟩
theorem ZhG {to : Int} {S : WayD -> Prop} {w : WayD} (h : ∀ d, ¬ S d) : ¬ ZaD to S (some w) := fun ⟨_, ⟨u, hu, _⟩, _⟩ => h u hu
def ZaS (xs : List RecD) (al : List Int) (src area : Int) (t : Int) (ds : List RecD) : Prop := Asc ds /\ ∀ r, r ∈ ds ↔ ∃ to c, r = Zcn area src to c /\ to < t /\ Zde xs al src area to c
theorem ZaS.skip {xs : List RecD} {al : List Int} {src area t : Int} {ds : List RecD} (h : ZaS xs al src area t ds) (hn : ∀ c, ¬ Zde xs al src area t c) : ZaS xs al src area (t + 1) ds := by
 refine ⟨h.1, fun r => ?_⟩
 rw [h.2]
 constructor
 ·rintro ⟨to, c, h1, h2, h3⟩
  exact ⟨to, c, h1, by omega, h3⟩
 ·rintro ⟨to, c, h1, h2, h3⟩
  refine ⟨to, c, h1, ?_, h3⟩
  by_cases e : to = t
  ·subst e; exact absurd h3 (hn c)
  ·omega
theorem ZaS.push {xs : List RecD} {al : List Int} {src area t c : Int} {ds : List RecD} (h : ZaS xs al src area t ds) (ht : Zde xs al src area t c) : ZaS xs al src area (t + 1) (ds ++ [Zcn area src t c]) := by
 refine ⟨?_, fun r => ?_⟩
 ·unfold Asc
  rw [List.pairwise_append]
  refine ⟨h.1, by simp, fun a ha b hb => ?_⟩
  have : b = Zcn area src t c := by simpa using hb
  subst this
  obtain ⟨to, c', rfl, h2, _⟩ := (h.2 a).1 ha
  rw [ZdK]
  simpa using h2
 ·rw [List.mem_append, h.2]
  constructor
  ·rintro (⟨to, c', h1, h2, h3⟩ | h1)
   ·exact ⟨to, c', h1, by omega, h3⟩
   ·exact ⟨t, c, by simpa using h1, by omega, ht⟩
  ·rintro ⟨to, c', h1, h2, h3⟩
   by_cases e : to = t
   ·subst e
    rw [Zjl h3 ht] at h1
    exact .inr (by simpa using h1)
   ·exact .inl ⟨to, c', h1, by omega, h3⟩
theorem ZaS.all {xs : List RecD} {al : List Int} {src area : Int} {ds : List RecD} (h : ZaS xs al src area 7 ds) : Zc3 xs al src area ds := by
 refine ⟨h.1, fun r => ?_⟩
 rw [h.2]
 constructor
 ·rintro ⟨to, c, h1, _, h3⟩
  exact ⟨to, c, h1, h3⟩
 ·rintro ⟨to, c, h1, h3⟩
  exact ⟨to, c, h1, by have := ZcG h3; omega, h3⟩
theorem ZaS.none {xs : List RecD} {al : List Int} {src area : Int} : ZaS xs al src area 1 [] := by
 refine ⟨List.Pairwise.nil, fun r => ?_⟩
 constructor
 ·intro h; cases h
 ·rintro ⟨to, c, _, h2, h3⟩
  have := ZcG h3
  omega
theorem ZaS.len {xs : List RecD} {al : List Int} {src area t : Int} {ds : List RecD} (h : ZaS xs al src area t ds) : ds.length <= 6 /\ ∀ r ∈ ds, r.near = [] := by
 constructor
 ·have h1 : (ds.map (·.key)).Pairwise (· < ·) := by
   rw [List.pairwise_map]
   refine List.Pairwise.imp_of_mem ?_ h.1
   intro a b ha hb hab
   obtain ⟨to, c, rfl, _⟩ := (h.2 a).1 ha
   obtain ⟨to', c', rfl, _⟩ := (h.2 b).1 hb
   rw [ZdK] at hab
   exact of_decide_eq_true hab
  have h2 := Zc4 h1 (fun z hz => by
   obtain ⟨r, hr, rfl⟩ := List.mem_map.1 hz
   obtain ⟨to, c, rfl, _, ht⟩ := (h.2 r).1 hr
   exact ZcG ht)
  simpa using h2
 ·intro r hr
  obtain ⟨to, c, rfl, _⟩ := (h.2 r).1 hr
  rfl
theorem Zk8 {xs : List RecD} {al : List Int} {src area to c : Int} (h : Zde xs al src area to c) : ZaE xs = true := by
 obtain ⟨_, _, ⟨w, ⟨_, ⟨u, hu, _⟩, _⟩, _⟩ | ⟨_, w, ⟨_, ⟨u, hu, _⟩, _⟩, _⟩⟩ := h
 ·obtain ⟨_, a, _, h3⟩ := hu
  exact (ZcE h3).1
 ·obtain ⟨_, a, _, _, h3⟩ := hu
  exact (Zgr h3).1
def Zdi : Array Oper := #[{ dst := some 72, op := Op.move (Operand.tmp 0), type := 31, pos := "l07_route.go:75", after := #[], guard := none }, { dst := some 73, op := Op.move (Operand.tmp 11), type := 108, pos := "l07_route.go:75", after := #[], guard := none }, { dst := some 74, op := Op.move (Operand.tmp 18), type := 3, pos := "l07_route.go:75", after := #[], guard := none }, { dst := some 75, op := Op.indexAddr 108 (Operand.tmp 73) (Operand.tmp 74), type := 0, pos := "l07_route.go:75", after := #[{ on := 1, ground := Ground.data }, { on := 2, ground := Ground.data }], guard := none }, { dst := some 76, op := Op.load 39 (Operand.tmp 75), type := 39, pos := "l07_route.go:75", after := #[{ on := 3, ground := Ground.data }], guard := none }, { dst := some 77, op := Op.move (Operand.tmp 1), type := 34, pos := "l07_route.go:75", after := #[], guard := none }, { dst := some 78, op := Op.move (Operand.tmp 18), type := 3, pos := "l07_route.go:75", after := #[], guard := none }, { dst := some 79, op := Op.indexAddr 34 (Operand.tmp 77) (Operand.tmp 78), type := 0, pos := "l07_route.go:75", after := #[{ on := 5, ground := Ground.data }, { on := 6, ground := Ground.data }], guard := none }, { dst := some 80, op := Op.load 3 (Operand.tmp 79), type := 3, pos := "l07_route.go:75", after := #[{ on := 7, ground := Ground.data }], guard := none }, { dst := some 81, op := Op.move (Operand.tmp 3), type := 3, pos := "l07_route.go:75", after := #[], guard := none }, { dst := some 82, op := Op.move (Operand.tmp 13), type := 3, pos := "l07_route.go:75", after := #[], guard := none }, { dst := some 83, op := Op.load 46 (Operand.tmp 16), type := 46, pos := "l07_route.go:75", after := #[], guard := none }, { dst := some 84, op := Op.move (Operand.tmp 17), type := 4, pos := "l07_route.go:75", after := #[], guard := none }, { dst := some 85, op := Op.call { callee := Callee.value (Operand.func 83), args := #[Operand.tmp 72, Operand.tmp 76, Operand.tmp 80, Operand.tmp 81, Operand.tmp 82, Operand.tmp 83, Operand.tmp 84], argTypes := #[31, 39, 3, 3, 3, 46, 4] }, type := 47, pos := "l07_route.go:75", after := #[{ on := 0, ground := Ground.data }, { on := 4, ground := Ground.data }, { on := 8, ground := Ground.data }, { on := 9, ground := Ground.data }, { on := 10, ground := Ground.data }, { on := 11, ground := Ground.data }, { on := 12, ground := Ground.data }], guard := none }, { dst := some 71, op := Op.move (Operand.tmp 85), type := 47, pos := "l07_route.go:75", after := #[{ on := 13, ground := Ground.data }], guard := none }, { dst := some 86, op := Op.extract (Operand.tmp 71) 0, type := 46, pos := "l07_route.go:75", after := #[{ on := 14, ground := Ground.data }], guard := none }, { dst := some 87, op := Op.extract (Operand.tmp 71) 1, type := 4, pos := "l07_route.go:75", after := #[{ on := 14, ground := Ground.data }, { on := 17, ground := Ground.gcOnly Departure.lateStores }], guard := none }, { dst := none, op := Op.store 46 (Operand.tmp 16) (Operand.tmp 86), type := 0, pos := "l07_route.go:75", after := #[{ on := 15, ground := Ground.data }, { on := 13, ground := Ground.chain }, { on := 0, ground := Ground.phase }, { on := 1, ground := Ground.phase }, { on := 2, ground := Ground.phase }, { on := 3, ground := Ground.phase }, { on := 4, ground := Ground.phase }, { on := 5, ground := Ground.phase }, { on := 6, ground := Ground.phase }, { on := 7, ground := Ground.phase }, { on := 8, ground := Ground.phase }, { on := 9, ground := Ground.phase }, { on := 10, ground := Ground.phase }, { on := 11, ground := Ground.phase }, { on := 12, ground := Ground.phase }, { on := 13, ground := Ground.phase }, { on := 14, ground := Ground.phase }, { on := 15, ground := Ground.phase }, { on := 16, ground := Ground.textOnly Departure.lateStores }], guard := none }, { dst := some 17, op := Op.assign (Operand.tmp 87), type := 4, pos := "l07_route.go:75", after := #[{ on := 16, ground := Ground.data }, { on := 17, ground := Ground.chain }, { on := 0, ground := Ground.phase }, { on := 1, ground := Ground.phase }, { on := 2, ground := Ground.phase }, { on := 3, ground := Ground.phase }, { on := 4, ground := Ground.phase }, { on := 5, ground := Ground.phase }, { on := 6, ground := Ground.phase }, { on := 7, ground := Ground.phase }, { on := 8, ground := Ground.phase }, { on := 9, ground := Ground.phase }, { on := 10, ground := Ground.phase }, { on := 11, ground := Ground.phase }, { on := 12, ground := Ground.phase }, { on := 13, ground := Ground.phase }, { on := 14, ground := Ground.phase }, { on := 15, ground := Ground.phase }, { on := 16, ground := Ground.phase }, { on := 17, ground := Ground.phase }], guard := none }]
theorem ZgR (W : World) (z : Nat) (q : WayD) (u : Value) (b j : Nat) (h : b ≠ z) : (Za0 W z q u).cell? ⟨b, j, none⟩ = W.cell? ⟨b, j, none⟩ := by
 have e : (Za0 W z q u).heap[b]? = W.heap[b]? := by
  unfold Za0
  rw [heap_setCell_other _ ⟨z, 2, none⟩ _ _ h, heap_setCell_other _ ⟨z, 1, none⟩ _ _ h, heap_setCell_other _ ⟨z, 0, none⟩ _ _ h]
 simp only [World.cell?, e]
theorem Zlt (t2 t4 t5 t6 t7 t8 t9 t10 t12 t14 t15 t19 t20 t21 t22 t23 t24 t25 t26 t27 t28 t29 t30 t31 t32 t33 t34 t35 t36 t37 t38 t39 t40 t41 t42 t43 t44 t45 t46 t47 t48 t49 t50 t51 t52 t53 t54 t55 t56 t57 t58 t59 t60 t61 t62 t63 t64 t65 t66 t67 t68 t69 t70 t71 t72 t73 t74 t75 t76 t77 t78 t79 t80 t81 t82 t83 t84 t85 t86 t87 t88 t89 t90 t91 t92 t93 : Value) (W0 : World) (rv wv fv0 : Value) (g n cap b off m acap z k : Nat) (area src to : Int) (x : WayD) (xa : Option Addr) (xl xc : Nat) (RR : World -> WayD -> Value -> Value -> Prop) (Q : Exit -> Act -> World -> Prop) (ops : Array Oper) (hops : Hid (ops = Zdi)) (hpan : ∀ c a1 a2 w, Q (.panic c) a1 w -> Q (.panic c) a2 w)
  (hk0 : (0 : Int) <= (k : Int)) (hkn : (k : Int) < (n : Int)) (hkm : (k : Int) < (m : Int))
  (hS : (fun W => W.cell? ⟨g, k, none⟩ = some wv /\ W.cell? ⟨b, off + k, none⟩ = some (.int .i64 area)) W0)
  (d0 : W0.cell? ⟨z, 0, none⟩ = some (.int .i64 x.to)) (d1 : W0.cell? ⟨z, 1, none⟩ = some (.int .i64 x.cost)) (d2 : W0.cell? ⟨z, 2, none⟩ = some (.slice xa xl xc))
  (hgz : g ≠ z) (hbz : b ≠ z)
  (HT : Hid (Calls Tryz.prog 83 #[rv, wv, .int .i64 area, .int .i64 src, .int .i64 to, .agg #[.int .i64 x.to, .int .i64 x.cost, .slice xa xl xc], fv0] W0 fun e w' => ∃ (q : WayD) (ua : Option Addr) (ul uc : Nat) (fv : Value), e = .returned (.tuple #[.agg #[.int .i64 q.to, .int .i64 q.cost, .slice ua ul uc], fv]) /\ RR w' q (.slice ua ul uc) fv))
  (hSR : ∀ W q u fv, RR W q u fv -> (fun W => W.cell? ⟨g, k, none⟩ = some wv /\ W.cell? ⟨b, off + k, none⟩ = some (.int .i64 area)) W)
  (hcell : ∀ W q u fv, RR W q u fv -> ∃ y0 y1 y2, W.cell? ⟨z, 0, none⟩ = some y0 /\ W.cell? ⟨z, 1, none⟩ = some y1 /\ W.cell? ⟨z, 2, none⟩ = some y2)
  (hfz : ∀ W q u fv, RR W q u fv -> ∀ j, W.frozen? ⟨z, j, none⟩ = false)
  (hend : ∀ (W : World) (q : WayD) ua ul uc fv, RR W q (.slice ua ul uc) fv -> Q .normal { tmps := #[rv, .slice (some ⟨b, off, none⟩) m acap, t2, .int .i64 src, t4, t5, t6, t7, t8, t9, t10, .slice (some ⟨g, 0, none⟩) n cap, t12, .int .i64 to, t14, t15, .pointer (some ⟨z, 0, none⟩), fv, .int .i64 (k : Int), t19, t20, t21, t22, t23, t24, t25, t26, t27, t28, t29, t30, t31, t32, t33, t34, t35, t36, t37, t38, t39, t40, t41, t42, t43, t44, t45, t46, t47, t48, t49, t50, t51, t52, t53, t54, t55, t56, t57, t58, t59, t60, t61, t62, t63, t64, t65, t66, t67, t68, t69, t70, .tuple #[.agg #[.int .i64 q.to, .int .i64 q.cost, .slice ua ul uc], fv], rv, .slice (some ⟨g, 0, none⟩) n cap, .int .i64 (k : Int), .pointer (some ⟨g, k, none⟩), wv, .slice (some ⟨b, off, none⟩) m acap, .int .i64 (k : Int), .pointer (some ⟨b, off + k, none⟩), .int .i64 area, .int .i64 src, .int .i64 to, .agg #[.int .i64 x.to, .int .i64 x.cost, .slice xa xl xc], fv0, .tuple #[.agg #[.int .i64 q.to, .int .i64 q.cost, .slice ua ul uc], fv], .agg #[.int .i64 q.to, .int .i64 q.cost, .slice ua ul uc], fv, t88, t89, t90, t91, t92, t93], defers := [] } (Za0 W z q (.slice ua ul uc))) :
  wpAnyH Tryz.prog .any ops Q (fun W => W.cell? ⟨g, k, none⟩ = some wv /\ W.cell? ⟨b, off + k, none⟩ = some (.int .i64 area)) 19 (Array.replicate 19 false) { tmps := #[rv, .slice (some ⟨b, off, none⟩) m acap, t2, .int .i64 src, t4, t5, t6, t7, t8, t9, t10, .slice (some ⟨g, 0, none⟩) n cap, t12, .int .i64 to, t14, t15, .pointer (some ⟨z, 0, none⟩), fv0, .int .i64 (k : Int), t19, t20, t21, t22, t23, t24, t25, t26, t27, t28, t29, t30, t31, t32, t33, t34, t35, t36, t37, t38, t39, t40, t41, t42, t43, t44, t45, t46, t47, t48, t49, t50, t51, t52, t53, t54, t55, t56, t57, t58, t59, t60, t61, t62, t63, t64, t65, t66, t67, t68, t69, t70, t71, t72, t73, t74, t75, t76, t77, t78, t79, t80, t81, t82, t83, t84, t85, t86, t87, t88, t89, t90, t91, t92, t93], defers := [] } W0 := by
 have h13 : ∀ W (q : WayD) ua ul uc fv, RR W q (.slice ua ul uc) fv -> wpAnyH Tryz.prog .any ops Q (fun W => W.cell? ⟨g, k, none⟩ = some wv /\ W.cell? ⟨b, off + k, none⟩ = some (.int .i64 area)) 5 #[true, true, true, true, true, true, true, true, true, true, true, true, true, true, false, false, false, false, false] { tmps := #[rv, .slice (some ⟨b, off, none⟩) m acap, t2, .int .i64 src, t4, t5, t6, t7, t8, t9, t10, .slice (some ⟨g, 0, none⟩) n cap, t12, .int .i64 to, t14, t15, .pointer (some ⟨z, 0, none⟩), fv0, .int .i64 (k : Int), t19, t20, t21, t22, t23, t24, t25, t26, t27, t28, t29, t30, t31, t32, t33, t34, t35, t36, t37, t38, t39, t40, t41, t42, t43, t44, t45, t46, t47, t48, t49, t50, t51, t52, t53, t54, t55, t56, t57, t58, t59, t60, t61, t62, t63, t64, t65, t66, t67, t68, t69, t70, t71, rv, .slice (some ⟨g, 0, none⟩) n cap, .int .i64 (k : Int), .pointer (some ⟨g, k, none⟩), wv, .slice (some ⟨b, off, none⟩) m acap, .int .i64 (k : Int), .pointer (some ⟨b, off + k, none⟩), .int .i64 area, .int .i64 src, .int .i64 to, .agg #[.int .i64 x.to, .int .i64 x.cost, .slice xa xl xc], fv0, .tuple #[.agg #[.int .i64 q.to, .int .i64 q.cost, .slice ua ul uc], fv], t86, t87, t88, t89, t90, t91, t92, t93], defers := [] } W := by
  intro W q ua ul uc fv hr
  have hS := hSR W _ _ _ hr
  obtain ⟨y0, y1, y2, f0, f1, f2⟩ := hcell W _ _ _ hr
  have fz := hfz W _ _ _ hr
  refine ZaV 14 (oi := ?_) (v := ?_) ?_ (by rw [hops.out]; kernel_rfl) ?_ ?_ ?_ hS ?_
  rotate_left 2
  ·rw [hops.out]; unfold Zdi; simp only [getS]; rfl
  ·rw [hops.out]; kernel_rfl
  ·intro W hW; obtain ⟨g1, g2⟩ := hW; go_simp <;> with_reducible rfl
  ·exact fun c _ w h => hpan c _ _ w h
  try simp only [putS]
  refine ZaV 15 (oi := ?_) (v := ?_) ?_ (by rw [hops.out]; kernel_rfl) ?_ ?_ ?_ hS ?_
  rotate_left 2
  ·rw [hops.out]; unfold Zdi; simp only [getS]; rfl
  ·rw [hops.out]; kernel_rfl
  ·intro W hW; obtain ⟨g1, g2⟩ := hW; go_simp <;> with_reducible rfl
  ·exact fun c _ w h => hpan c _ _ w h
  try simp only [putS]
  refine ZaV 16 (oi := ?_) (v := ?_) ?_ (by rw [hops.out]; kernel_rfl) ?_ ?_ ?_ hS ?_
  rotate_left 2
  ·rw [hops.out]; unfold Zdi; simp only [getS]; rfl
  ·rw [hops.out]; kernel_rfl
  ·intro W hW; obtain ⟨g1, g2⟩ := hW; go_simp <;> with_reducible rfl
  ·exact fun c _ w h => hpan c _ _ w h
  try simp only [putS]
  refine wpAnyH_ready (rs := [17]) (by rw [hops.out]; kernel_rfl) (by simp) ?_
  refine AllReadyH.cons (o := ?_) ?_ (fun K hK => ?_) ?_
  rotate_left 1
  ·rw [hops.out]; unfold Zdi; simp only [getS]; rfl
  ·rw [if_pos (by rfl)]
   go_simp
   have hS2 : (fun W => W.cell? ⟨g, k, none⟩ = some wv /\ W.cell? ⟨b, off + k, none⟩ = some (.int .i64 area)) (Za0 W z q (.slice ua ul uc)) := by
    refine ⟨?_, ?_⟩
    ·show (Za0 W z q (.slice ua ul uc)).cell? _ = _
     rw [ZgR W z q _ _ _ hgz]; exact hS.1
    ·show (Za0 W z q (.slice ua ul uc)).cell? _ = _
     rw [ZgR W z q _ _ _ hbz]; exact hS.2
   refine hK.out _ _ hS2 (fun _ => ?_)
   refine wpAnyH_ready (rs := [18]) (by rw [hops.out]; kernel_rfl) (by simp) ?_
   refine AllReadyH.cons (o := ?_) ?_ (fun K hK => ?_) ?_
   rotate_left 1
   ·rw [hops.out]; unfold Zdi; simp only [getS]; rfl
   ·rw [if_pos (by rfl)]
    go_simp
    refine hK.out _ _ hS2 (fun _ => ?_)
    refine wpAnyH_done (by rw [hops.out]; kernel_rfl) ?_ _
    exact hend W q ua ul uc fv hr
   exact AllReadyH.nil
  exact AllReadyH.nil
 have h11 : wpAnyH Tryz.prog .any ops Q (fun W => W.cell? ⟨g, k, none⟩ = some wv /\ W.cell? ⟨b, off + k, none⟩ = some (.int .i64 area)) 6 #[true, true, true, true, true, true, true, true, true, true, true, true, true, false, false, false, false, false, false] { tmps := #[rv, .slice (some ⟨b, off, none⟩) m acap, t2, .int .i64 src, t4, t5, t6, t7, t8, t9, t10, .slice (some ⟨g, 0, none⟩) n cap, t12, .int .i64 to, t14, t15, .pointer (some ⟨z, 0, none⟩), fv0, .int .i64 (k : Int), t19, t20, t21, t22, t23, t24, t25, t26, t27, t28, t29, t30, t31, t32, t33, t34, t35, t36, t37, t38, t39, t40, t41, t42, t43, t44, t45, t46, t47, t48, t49, t50, t51, t52, t53, t54, t55, t56, t57, t58, t59, t60, t61, t62, t63, t64, t65, t66, t67, t68, t69, t70, t71, rv, .slice (some ⟨g, 0, none⟩) n cap, .int .i64 (k : Int), .pointer (some ⟨g, k, none⟩), wv, .slice (some ⟨b, off, none⟩) m acap, .int .i64 (k : Int), .pointer (some ⟨b, off + k, none⟩), .int .i64 area, .int .i64 src, .int .i64 to, .agg #[.int .i64 x.to, .int .i64 x.cost, .slice xa xl xc], fv0, t85, t86, t87, t88, t89, t90, t91, t92, t93], defers := [] } W0 := by
  refine wpAnyH_ready (rs := [13]) (by rw [hops.out]; kernel_rfl) (by simp) ?_
  refine AllReadyH.cons (o := ?_) ?_ (fun K hK => ?_) ?_
  rotate_left 1
  ·rw [hops.out]; unfold Zdi; simp only [getS]; rfl
  ·rw [if_pos (by rfl)]
   go_simp
   refine HT.out.mono ?_
   rintro e w2 ⟨q, ua, ul, uc, fv, rfl, hr⟩
   refine hK.out _ _ (hSR w2 _ _ _ hr) (fun _ => ?_)
   exact h13 w2 q ua ul uc fv hr
  exact AllReadyH.nil
 show wpAnyH Tryz.prog .any ops Q (fun W => W.cell? ⟨g, k, none⟩ = some wv /\ W.cell? ⟨b, off + k, none⟩ = some (.int .i64 area)) 19 #[false, false, false, false, false, false, false, false, false, false, false, false, false, false, false, false, false, false, false] _ W0
 refine ZaV 0 (oi := ?_) (v := ?_) ?_ (by rw [hops.out]; kernel_rfl) ?_ ?_ ?_ hS ?_
 rotate_left 2
 ·rw [hops.out]; unfold Zdi; simp only [getS]; rfl
 ·rw [hops.out]; kernel_rfl
 ·intro W hW; obtain ⟨g1, g2⟩ := hW; go_simp <;> with_reducible rfl
 ·exact fun c _ w h => hpan c _ _ w h
 try simp only [putS]
 refine ZaV 1 (oi := ?_) (v := ?_) ?_ (by rw [hops.out]; kernel_rfl) ?_ ?_ ?_ hS ?_
 rotate_left 2
 ·rw [hops.out]; unfold Zdi; simp only [getS]; rfl
 ·rw [hops.out]; kernel_rfl
 ·intro W hW; obtain ⟨g1, g2⟩ := hW; go_simp <;> with_reducible rfl
 ·exact fun c _ w h => hpan c _ _ w h
 try simp only [putS]
 refine ZaV 2 (oi := ?_) (v := ?_) ?_ (by rw [hops.out]; kernel_rfl) ?_ ?_ ?_ hS ?_
 rotate_left 2
 ·rw [hops.out]; unfold Zdi; simp only [getS]; rfl
 ·rw [hops.out]; kernel_rfl
 ·intro W hW; obtain ⟨g1, g2⟩ := hW; go_simp <;> with_reducible rfl
 ·exact fun c _ w h => hpan c _ _ w h
 try simp only [putS]
 refine ZaV 3 (oi := ?_) (v := ?_) ?_ (by rw [hops.out]; kernel_rfl) ?_ ?_ ?_ hS ?_
 rotate_left 2
 ·rw [hops.out]; unfold Zdi; simp only [getS]; rfl
 ·rw [hops.out]; kernel_rfl
 ·intro W hW; obtain ⟨g1, g2⟩ := hW; go_simp <;> with_reducible rfl
 ·exact fun c _ w h => hpan c _ _ w h
 try simp only [putS]
 refine ZaV 4 (oi := ?_) (v := ?_) ?_ (by rw [hops.out]; kernel_rfl) ?_ ?_ ?_ hS ?_
 rotate_left 2
 ·rw [hops.out]; unfold Zdi; simp only [getS]; rfl
 ·rw [hops.out]; kernel_rfl
 ·intro W hW; obtain ⟨g1, g2⟩ := hW; go_simp <;> with_reducible rfl
 ·exact fun c _ w h => hpan c _ _ w h
 try simp only [putS]
 refine ZaV 5 (oi := ?_) (v := ?_) ?_ (by rw [hops.out]; kernel_rfl) ?_ ?_ ?_ hS ?_
 rotate_left 2
 ·rw [hops.out]; unfold Zdi; simp only [getS]; rfl
 ·rw [hops.out]; kernel_rfl
 ·intro W hW; obtain ⟨g1, g2⟩ := hW; go_simp <;> with_reducible rfl
 ·exact fun c _ w h => hpan c _ _ w h
 try simp only [putS]
 refine ZaV 6 (oi := ?_) (v := ?_) ?_ (by rw [hops.out]; kernel_rfl) ?_ ?_ ?_ hS ?_
 rotate_left 2
 ·rw [hops.out]; unfold Zdi; simp only [getS]; rfl
 ·rw [hops.out]; kernel_rfl
 ·intro W hW; obtain ⟨g1, g2⟩ := hW; go_simp <;> with_reducible rfl
 ·exact fun c _ w h => hpan c _ _ w h
 try simp only [putS]
 refine ZaV 7 (oi := ?_) (v := ?_) ?_ (by rw [hops.out]; kernel_rfl) ?_ ?_ ?_ hS ?_
 rotate_left 2
 ·rw [hops.out]; unfold Zdi; simp only [getS]; rfl
 ·rw [hops.out]; kernel_rfl
 ·intro W hW; obtain ⟨g1, g2⟩ := hW; go_simp <;> with_reducible rfl
 ·exact fun c _ w h => hpan c _ _ w h
 try simp only [putS]
 refine ZaV 8 (oi := ?_) (v := ?_) ?_ (by rw [hops.out]; kernel_rfl) ?_ ?_ ?_ hS ?_
 rotate_left 2
 ·rw [hops.out]; unfold Zdi; simp only [getS]; rfl
 ·rw [hops.out]; kernel_rfl
 ·intro W hW; obtain ⟨g1, g2⟩ := hW; go_simp <;> with_reducible rfl
 ·exact fun c _ w h => hpan c _ _ w h
 try simp only [putS]
 refine ZaV 9 (oi := ?_) (v := ?_) ?_ (by rw [hops.out]; kernel_rfl) ?_ ?_ ?_ hS ?_
 rotate_left 2
 ·rw [hops.out]; unfold Zdi; simp only [getS]; rfl
 ·rw [hops.out]; kernel_rfl
 ·intro W hW; obtain ⟨g1, g2⟩ := hW; go_simp <;> with_reducible rfl
 ·exact fun c _ w h => hpan c _ _ w h
 try simp only [putS]
 refine ZaV 10 (oi := ?_) (v := ?_) ?_ (by rw [hops.out]; kernel_rfl) ?_ ?_ ?_ hS ?_
 rotate_left 2
 ·rw [hops.out]; unfold Zdi; simp only [getS]; rfl
 ·rw [hops.out]; kernel_rfl
 ·intro W hW; obtain ⟨g1, g2⟩ := hW; go_simp <;> with_reducible rfl
 ·exact fun c _ w h => hpan c _ _ w h
 try simp only [putS]
 refine ZaV 12 (oi := ?_) (v := ?_) ?_ (by rw [hops.out]; kernel_rfl) ?_ ?_ ?_ hS ?_
 rotate_left 2
 ·rw [hops.out]; unfold Zdi; simp only [getS]; rfl
 ·rw [hops.out]; kernel_rfl
 ·intro W hW; obtain ⟨g1, g2⟩ := hW; go_simp <;> with_reducible rfl
 ·exact fun c _ w h => hpan c _ _ w h
 try simp only [putS]
 refine wpAnyH_ready (rs := [11]) (by rw [hops.out]; kernel_rfl) (by simp) ?_
 refine AllReadyH.cons (o := ?_) ?_ (fun K hK => ?_) ?_
 rotate_left 1
 ·rw [hops.out]; unfold Zdi; simp only [getS]; rfl
 ·rw [if_pos (by rfl)]
  go_simp
  refine hK.out _ _ hS (fun _ => ?_)
  exact h11
 exact AllReadyH.nil
theorem Zc1 (x : WayD) (a : Option Addr) (n c : Nat) : ∀ u ∈ encW (x, .slice a n c), u.oneCell' = true := by
 intro u hu
 simp only [encW, List.mem_cons, List.not_mem_nil, or_false] at hu
 rcases hu with rfl | rfl | rfl <;> rfl
theorem Zg0 {W : World} {lo lo2 hi n size2 : Nat} {v : Value} {xs : List Value} {q : WP} (hq : Zbv W lo hi q) (hr : W.ownsRow lo2 46 size2 v n xs) (j : Nat) (hj : q.2.ownBlock = some j) : some j ≠ v.ownBlock := by
 intro e
 rcases hr.2 with ⟨h0, _⟩ | ⟨g, cap, cur, hv, _, hh, _⟩
 ·rw [h0] at e; simp [Value.ownBlock] at e
 ·rw [hv] at e
  simp [Value.ownBlock] at e
  subst e
  exact Zaq hq.1 hh (by decide) hj.symm
theorem WaysOwn.push {W Wa W2 : World} {lo : Nat} {v v' : Value} {qs : List WP} {p : WP} (h : WaysOwn W lo W.heap.size v qs) (hb : Below W.heap.size W Wa) (hlo : lo <= W.heap.size) (hp : Zbv Wa W.heap.size Wa.heap.size p)
  (row : W2.ownsRow lo 46 3 v' (qs.length + 1) (flat encW (qs ++ [p]))) (hg : Wa.grownBy W2 v.ownBlock) : WaysOwn W2 lo W2.heap.size v' (qs ++ [p]) where
 row := by simpa using row
 top := fun k hk => (row.lt k hk).2
 apart := ZkR h.apart h.nears (fun k hk => (hp.1.lt k hk).1)
 nears := by
  have rowa := Zae h.row hb (Nat.le_refl _)
  have key : ∀ q, Zbv Wa lo Wa.heap.size q -> Zbv W2 lo W2.heap.size q := fun q hq =>
   ⟨Zap hq.1 (fun j hj => hg.block j (hq.2 j hj) (Zg0 hq rowa j hj)), fun k hk => Nat.lt_of_lt_of_le (hq.2 k hk) hg.size⟩
  intro q hq
  rcases List.mem_append.1 hq with h1 | h1
  ·exact key q (((h.nears q h1).keep (W' := Wa) (fun j _ h2 _ => hb.block j h2)).wide (Nat.le_refl _) hb.size)
  ·have : q = p := by simpa using h1
   subst this
   exact key q (hp.wide hlo (Nat.le_refl _))
theorem ZaG {α : Type} {enc : α -> List Value} {sz bytes : Nat} (hlen : ∀ a, (enc a).length = sz) (hpos : 0 < sz) (hbb : bytes <= 100) {P : Program} (w : World) {ops : Array Oper} {rest : List Oper} {o : Oper} {a : Act} {Q : Exit -> Act -> World -> Prop} (hgd : o.guard = none) (s x : Operand) (t : TypeId)
  (ho : o.op = .call { callee := .builtin .append, args := #[s, x], argTypes := #[t, t] }) (base : Nat) (e : TypeId) (ht : P.underlying t = some (.slice e)) (zv : Value) (hzv : zv.cells.size = sz)
  (hinfo : (P.info? e).map (fun i => (i.zero, i.size, i.bytes)) = some (some zv, sz, bytes))
  (v : Value) (l : List α) (y : α) (hone : ∀ u ∈ enc y, u.oneCell' = true) (hs : a.eval s = v) (hown : w.ownsRow base e sz v l.length (flat enc l))
  (ad : Addr) (c : Nat) (hx : a.eval x = .slice (some ad) 1 c) (hnews : ∀ j u, (enc y)[j]? = some u -> w.cell? (ad.add j) = some u)
  (hl : l.length + 1 <= 1000000000) (hbase : base <= w.heap.size)
  (h : ∀ v' w', w'.ownsRow base e sz v' (l ++ [y]).length (flat enc (l ++ [y])) -> w.grownBy w' v.ownBlock -> (v'.ownBlock = v.ownBlock \/ v'.ownBlock = some w.heap.size) -> wpList P ops Q rest (a.put o.dst v') w') : wpList P ops Q (o :: rest) a w := by
 obtain ⟨i0, hi, hz0, hz1, hz2⟩ := info_parts hinfo
 refine wpList_append_own_at w hgd s x t ho base e i0 zv sz bytes ht hi hz0 hz1 hz2 hzv hpos v l.length (flat enc l) hs hown ad 1 c (enc y) hx (by rw [hlen]; omega) hnews hone (by unfold maxLen; omega) ?_ hbase ?_
 ·have : (l.length + 1) * bytes <= 1000000000 * 100 := Nat.mul_le_mul hl hbb
  omega
 ·intro v' w' h1 h2 _ h4
  have e1 : flat enc l ++ enc y = flat enc (l ++ [y]) := by rw [ZaO]; simp [flat]
  rw [e1] at h1
  exact h v' w' (by simpa using h1) h2 h4
theorem Zdw (W : World) (o : Obj) (k : Nat) (hk : k < W.heap.size) : (W.alloc o).heap[k]? = W.heap[k]? := Below.heap_alloc _ _ _ hk
theorem ZeW {P : Program} {w : World} {o : Oper} {a : Act} {K : Act -> World -> Prop} {Q : Exit -> Act -> World -> Prop} (s x : Operand) (t : TypeId)
  (ho : o.op = .call { callee := .builtin .append, args := #[s, x], argTypes := #[t, t] })
  (base : Nat) (e : TypeId) (i : TypeInfo) (size : Nat) (ht : P.underlying t = some (.slice e)) (hi : P.info? e = some i)
  (v : Value) (n : Nat) (xs : List Value) (hs : a.eval s = v) (hown : w.ownsRow base e size v n xs) (hx : a.eval x = .slice none 0 0)
  (h : K (a.put o.dst v) w) : o.wp P a w K Q := by
 have hrun := run_append_owned_none (P := P) (w := w) base t o.type e i size ht hi v n xs hown
 unfold Oper.wp
 simp [execOp, ho, resolve, invoke, builtin, hs, hx, hrun, Result.andThen]
 exact h
theorem ZgM {α : Type} {enc : α -> List Value} {sz bytes : Nat} (hlen : ∀ l : List α, (flat enc l).length = l.length * sz) (hpos : 0 < sz) (hone : ∀ a, ∀ u ∈ enc a, u.oneCell' = true) (hbb : bytes <= 100) {P : Program} (w : World) {o : Oper} {a : Act} {K : Act -> World -> Prop} {Q : Exit -> Act -> World -> Prop} (s x : Operand) (t : TypeId)
  (ho : o.op = .call { callee := .builtin .append, args := #[s, x], argTypes := #[t, t] }) (base : Nat) (e : TypeId) (ht : P.underlying t = some (.slice e)) (zv : Value) (hzv : zv.cells.size = sz)
  (hinfo : (P.info? e).map (fun i => (i.zero, i.size, i.bytes)) = some (some zv, sz, bytes))
  (v : Value) (l : List α) (hs : a.eval s = v) (hown : w.ownsRow base e sz v l.length (flat enc l))
  (base2 : Nat) (v2 : Value) (l2 : List α) (hx : a.eval x = v2) (hown2 : w.ownsRow base2 e sz v2 l2.length (flat enc l2))
  (hl : l.length + l2.length <= 1000000000) (hbase : base <= w.heap.size)
  (h : ∀ v' w', w'.ownsRow base e sz v' (l ++ l2).length (flat enc (l ++ l2)) -> w.grownBy w' v.ownBlock -> K (a.put o.dst v') w') : o.wp P a w K Q := by
 obtain ⟨i0, hi, hz0, hz1, hz2⟩ := info_parts hinfo
 rcases hown2.2 with ⟨e1, e2⟩ | ⟨g, cap, cur, e1, _⟩
 ·have e3 : l2 = [] := List.eq_nil_of_length_eq_zero e2
  subst e3
  refine ZeW s x t ho base e i0 sz ht hi v l.length (flat enc l) hs hown (hx.trans e1) ?_
  exact h v w (by simpa using hown) (ZcD w _)
 ·refine wp_append_own w s x t ho base e i0 zv sz bytes ht hi hz0 hz1 hz2 hzv hpos v l.length (flat enc l) hs hown ⟨g, 0, none⟩ l2.length cap (flat enc l2) (hx.trans e1) (hlen l2) (hown2.cells (by rw [e1]; rfl)) ?_ (by unfold maxLen; omega) ?_ hbase ?_
  ·intro u hu
   simp only [flat, List.mem_flatMap] at hu
   obtain ⟨b, _, hb⟩ := hu
   exact hone b u hb
  ·have : (l.length + l2.length) * bytes <= 1000000000 * 100 := Nat.mul_le_mul hl hbb
   omega
  ·intro v' w' h1 h2 _
   have e1 : flat enc l ++ flat enc l2 = flat enc (l ++ l2) := by rw [ZaO]
   rw [e1] at h1
   exact h v' w' (by simpa using h1) h2
theorem Zfl {α : Type} {enc : α -> List Value} {sz bytes : Nat} (hlen : ∀ a, (enc a).length = sz) (hpos : 0 < sz) (y0 : α) (hone : ∀ u ∈ enc y0, u.oneCell' = true) (hbb : bytes <= 100) {P : Program} (w : World) {o : Oper} {a : Act} {K : Act -> World -> Prop} {Q : Exit -> Act -> World -> Prop} (s x : Operand) (t : TypeId)
  (ho : o.op = .call { callee := .builtin .append, args := #[s, x], argTypes := #[t, t] }) (base : Nat) (e : TypeId) (ht : P.underlying t = some (.slice e)) (zv : Value) (hzv : zv.cells.size = sz)
  (hinfo : (P.info? e).map (fun i => (i.zero, i.size, i.bytes)) = some (some zv, sz, bytes))
  (v : Value) (l : List α) (hs : a.eval s = v) (hown : w.ownsRow base e sz v l.length (flat enc l))
  (ad : Addr) (c : Nat) (hx : a.eval x = .slice (some ad) 1 c) (hnews : ∀ j u, (enc y0)[j]? = some u -> w.cell? (ad.add j) = some u)
  (hl : l.length + 1 <= 1000000000) (hbase : base <= w.heap.size)
  (h : ∀ v' w' l', Hid (l' = l ++ [y0]) -> w'.ownsRow base e sz v' l'.length (flat enc l') -> w.grownBy w' v.ownBlock -> K (a.put o.dst v') w') : Oper.wp P o a w K Q := by
 obtain ⟨i0, hi, hz0, hz1, hz2⟩ := info_parts hinfo
 refine wp_append_own w s x t ho base e i0 zv sz bytes ht hi hz0 hz1 hz2 hzv hpos v l.length (flat enc l) hs hown ad 1 c (enc y0) hx (by rw [hlen]; omega) hnews (hone) (by unfold maxLen; omega) ?_ hbase ?_
 ·have : (l.length + 1) * bytes <= 1000000000 * 100 := Nat.mul_le_mul hl hbb
  omega
 ·intro v' w' h1 h2 _
  have e1 : flat enc l ++ enc y0 = flat enc (l ++ [y0]) := by rw [ZaO]; simp [flat]
  rw [e1] at h1
  exact h v' w' (l ++ [y0]) rfl (by simpa using h1) h2
def wOps : Array Oper := #[{ dst := some 181, op := Go.Op.move (Go.Operand.tmp 7), type := 39, pos := "l06_way.go:102", after := #[], guard := none }, { dst := some 182, op := Go.Op.move (Go.Operand.tmp 22), type := 3, pos := "l06_way.go:102", after := #[], guard := none }, { dst := some 183, op := Go.Op.move (Go.Operand.tmp 11), type := 34, pos := "l06_way.go:102", after := #[], guard := none }, { dst := some 184, op := Go.Op.move (Go.Operand.tmp 22), type := 3, pos := "l06_way.go:102", after := #[], guard := none }, { dst := some 185, op := Go.Op.indexAddr 34 (Go.Operand.tmp 183) (Go.Operand.tmp 184), type := 0, pos := "l06_way.go:102", after := #[{ on := 2, ground := Go.Ground.data }, { on := 3, ground := Go.Ground.data }], guard := none }, { dst := some 186, op := Go.Op.load 3 (Go.Operand.tmp 185), type := 3, pos := "l06_way.go:102", after := #[{ on := 4, ground := Go.Ground.data }], guard := none }, { dst := some 187, op := Go.Op.buildSlice 34 0 #[], type := 34, pos := "l06_way.go:102", after := #[], guard := none }, { dst := some 188, op := Go.Op.move (Go.Operand.tmp 12), type := 90, pos := "l06_way.go:102", after := #[], guard := none }, { dst := some 189, op := Go.Op.move (Go.Operand.tmp 22), type := 3, pos := "l06_way.go:102", after := #[], guard := none }, { dst := some 190, op := Go.Op.indexAddr 90 (Go.Operand.tmp 188) (Go.Operand.tmp 189), type := 0, pos := "l06_way.go:102", after := #[{ on := 7, ground := Go.Ground.data }, { on := 8, ground := Go.Ground.data }], guard := none }, { dst := some 191, op := Go.Op.load 34 (Go.Operand.tmp 190), type := 34, pos := "l06_way.go:102", after := #[{ on := 9, ground := Go.Ground.data }], guard := none }, { dst := some 192, op := Go.Op.call { callee := Go.Callee.builtin Go.Builtin.append, args := #[Go.Operand.tmp 187, Go.Operand.tmp 191], argTypes := #[34, 34] }, type := 34, pos := "l06_way.go:102", after := #[{ on := 6, ground := Go.Ground.data }, { on := 10, ground := Go.Ground.data }], guard := none }, { dst := some 193, op := Go.Op.build 46 #[(0, Go.Operand.tmp 182), (1, Go.Operand.tmp 186), (2, Go.Operand.tmp 192)], type := 46, pos := "l06_way.go:102", after := #[{ on := 1, ground := Go.Ground.data }, { on := 5, ground := Go.Ground.data }, { on := 11, ground := Go.Ground.data }], guard := none }, { dst := some 194, op := Go.Op.buildSlice 39 1 #[(0, Go.Operand.tmp 193)], type := 39, pos := "l06_way.go:102", after := #[{ on := 12, ground := Go.Ground.data }], guard := none }, { dst := some 195, op := Go.Op.call { callee := Go.Callee.builtin Go.Builtin.append, args := #[Go.Operand.tmp 181, Go.Operand.tmp 194], argTypes := #[39, 39] }, type := 39, pos := "l06_way.go:102", after := #[{ on := 0, ground := Go.Ground.data }, { on := 13, ground := Go.Ground.data }, { on := 11, ground := Go.Ground.chain }], guard := none }, { dst := some 7, op := Go.Op.assign (Go.Operand.tmp 195), type := 39, pos := "l06_way.go:102", after := #[{ on := 14, ground := Go.Ground.data }, { on := 14, ground := Go.Ground.chain }, { on := 0, ground := Go.Ground.phase }, { on := 1, ground := Go.Ground.phase }, { on := 2, ground := Go.Ground.phase }, { on := 3, ground := Go.Ground.phase }, { on := 4, ground := Go.Ground.phase }, { on := 5, ground := Go.Ground.phase }, { on := 6, ground := Go.Ground.phase }, { on := 7, ground := Go.Ground.phase }, { on := 8, ground := Go.Ground.phase }, { on := 9, ground := Go.Ground.phase }, { on := 10, ground := Go.Ground.phase }, { on := 11, ground := Go.Ground.phase }, { on := 12, ground := Go.Ground.phase }, { on := 13, ground := Go.Ground.phase }, { on := 14, ground := Go.Ground.phase }], guard := none }]
theorem Zob (t0 t1 t2 t3 t4 t5 t6 t8 t9 t10 t13 t14 t15 t16 t17 t18 t19 t20 t21 t23 t24 t25 t26 t27 t28 t29 t30 t31 t32 t33 t34 t35 t36 t37 t38 t39 t40 t41 t42 t43 t44 t45 t46 t47 t48 t49 t50 t51 t52 t53 t54 t55 t56 t57 t58 t59 t60 t61 t62 t63 t64 t65 t66 t67 t68 t69 t70 t71 t72 t73 t74 t75 t76 t77 t78 t79 t80 t81 t82 t83 t84 t85 t86 t87 t88 t89 t90 t91 t92 t93 t94 t95 t96 t97 t98 t99 t100 t101 t102 t103 t104 t105 t106 t107 t108 t109 t110 t111 t112 t113 t114 t115 t116 t117 t118 t119 t120 t121 t122 t123 t124 t125 t126 t127 t128 t129 t130 t131 t132 t133 t134 t135 t136 t137 t138 t139 t140 t141 t142 t143 t144 t145 t146 t147 t148 t149 t150 t151 t152 t153 t154 t155 t156 t157 t158 t159 t160 t161 t162 t163 t164 t165 t166 t167 t168 t169 t170 t171 t172 t173 t174 t175 t176 t177 t178 t179 t180 t181 t182 t183 t184 t185 t186 t187 t188 t189 t190 t191 t192 t193 t194 t195 t196 : Value) (W0 : World) (lo b v : Nat) (cv : Int) (hl : List Int) (pv : Option Addr) (qv : Nat) (ua : Option Addr) (uc : Nat) (qs : List WP) (cb ch : Array Value) (Q : Exit -> Act -> World -> Prop) (ops : Array Oper) (hops : Hid (ops = wOps)) (hpan : ∀ c a1 a2 w, Q (.panic c) a1 w -> Q (.panic c) a2 w)
  (hv : v <= 6) (hll : hl.length <= 6) (hql : qs.length <= 6) (hlo : lo <= W0.heap.size)
  (hb : W0.heap[b]? = some (.cells cb 3)) (hh : W0.heap[b + 1]? = some (.cells ch 34)) (h1 : W0.cell? ⟨b, v, none⟩ = some (.int .i64 cv)) (h2 : W0.cell? ⟨b + 1, v, none⟩ = some (.slice pv hl.length qv))
  (hRV : W0.ownsRow 0 3 1 (.slice pv hl.length qv) hl.length (flat intE hl)) (hWO : WaysOwn W0 lo W0.heap.size (.slice ua qs.length uc) qs)
  (hend : ∀ (W4 : World) (xa : Option Addr) (xc : Nat) (na : Option Addr) (nc N : Nat), WaysOwn W4 lo W4.heap.size (.slice xa (qs.length + 1) xc) (qs ++ [(⟨(v : Int), cv, hl⟩, .slice na hl.length nc)]) -> (∀ k, k < W0.heap.size -> some k ≠ (Value.slice ua qs.length uc).ownBlock -> W4.heap[k]? = W0.heap[k]?) -> Below lo W0 W4 -> Q .normal { tmps := #[t0, t1, t2, t3, t4, t5, t6, .slice xa (qs.length + 1) xc, t8, t9, t10, .slice (some ⟨b, 0, none⟩) 7 7, .slice (some ⟨b + 1, 0, none⟩) 7 7, t13, t14, t15, t16, t17, t18, t19, t20, t21, .int .i64 (v : Int), t23, t24, t25, t26, t27, t28, t29, t30, t31, t32, t33, t34, t35, t36, t37, t38, t39, t40, t41, t42, t43, t44, t45, t46, t47, t48, t49, t50, t51, t52, t53, t54, t55, t56, t57, t58, t59, t60, t61, t62, t63, t64, t65, t66, t67, t68, t69, t70, t71, t72, t73, t74, t75, t76, t77, t78, t79, t80, t81, t82, t83, t84, t85, t86, t87, t88, t89, t90, t91, t92, t93, t94, t95, t96, t97, t98, t99, t100, t101, t102, t103, t104, t105, t106, t107, t108, t109, t110, t111, t112, t113, t114, t115, t116, t117, t118, t119, t120, t121, t122, t123, t124, t125, t126, t127, t128, t129, t130, t131, t132, t133, t134, t135, t136, t137, t138, t139, t140, t141, t142, t143, t144, t145, t146, t147, t148, t149, t150, t151, t152, t153, t154, t155, t156, t157, t158, t159, t160, t161, t162, t163, t164, t165, t166, t167, t168, t169, t170, t171, t172, t173, t174, t175, t176, t177, t178, t179, t180, .slice ua qs.length uc, .int .i64 (v : Int), .slice (some ⟨b, 0, none⟩) 7 7, .int .i64 (v : Int), .pointer (some ⟨b, v, none⟩), .int .i64 cv, .slice (some ⟨W0.heap.size, 0, none⟩) 0 0, .slice (some ⟨b + 1, 0, none⟩) 7 7, .int .i64 (v : Int), .pointer (some ⟨b + 1, v, none⟩), .slice pv hl.length qv, .slice na hl.length nc, .agg #[.int .i64 (v : Int), .int .i64 cv, .slice na hl.length nc], .slice (some ⟨N, 0, none⟩) 1 1, .slice xa (qs.length + 1) xc, t196], defers := [] } W4) :
  wpAnyH Tryz.prog .any ops Q (fun W => W.cell? ⟨b, v, none⟩ = some (.int .i64 cv) /\ W.cell? ⟨b + 1, v, none⟩ = some (.slice pv hl.length qv)) 16 (Array.replicate 16 false) { tmps := #[t0, t1, t2, t3, t4, t5, t6, .slice ua qs.length uc, t8, t9, t10, .slice (some ⟨b, 0, none⟩) 7 7, .slice (some ⟨b + 1, 0, none⟩) 7 7, t13, t14, t15, t16, t17, t18, t19, t20, t21, .int .i64 (v : Int), t23, t24, t25, t26, t27, t28, t29, t30, t31, t32, t33, t34, t35, t36, t37, t38, t39, t40, t41, t42, t43, t44, t45, t46, t47, t48, t49, t50, t51, t52, t53, t54, t55, t56, t57, t58, t59, t60, t61, t62, t63, t64, t65, t66, t67, t68, t69, t70, t71, t72, t73, t74, t75, t76, t77, t78, t79, t80, t81, t82, t83, t84, t85, t86, t87, t88, t89, t90, t91, t92, t93, t94, t95, t96, t97, t98, t99, t100, t101, t102, t103, t104, t105, t106, t107, t108, t109, t110, t111, t112, t113, t114, t115, t116, t117, t118, t119, t120, t121, t122, t123, t124, t125, t126, t127, t128, t129, t130, t131, t132, t133, t134, t135, t136, t137, t138, t139, t140, t141, t142, t143, t144, t145, t146, t147, t148, t149, t150, t151, t152, t153, t154, t155, t156, t157, t158, t159, t160, t161, t162, t163, t164, t165, t166, t167, t168, t169, t170, t171, t172, t173, t174, t175, t176, t177, t178, t179, t180, t181, t182, t183, t184, t185, t186, t187, t188, t189, t190, t191, t192, t193, t194, t195, t196], defers := [] } W0 := by
 have hS0 : W0.cell? ⟨b, v, none⟩ = some (.int .i64 cv) /\ W0.cell? ⟨b + 1, v, none⟩ = some (.slice pv hl.length qv) := ⟨h1, h2⟩
 have hS1 : ∀ W : World, (∀ k, k < W0.heap.size -> W.heap[k]? = W0.heap[k]?) -> W.cell? ⟨b, v, none⟩ = some (.int .i64 cv) /\ W.cell? ⟨b + 1, v, none⟩ = some (.slice pv hl.length qv) := fun W hk => ⟨(World.cell?_of_block (hk b (Zab hb))).trans h1, (World.cell?_of_block (hk (b + 1) (Zab hh))).trans h2⟩
 have hvi : (0 : Int) <= (v : Int) := by omega
 have hvj : (v : Int) < 7 := by omega
 show wpAnyH Tryz.prog .any ops Q _ 16 #[false, false, false, false, false, false, false, false, false, false, false, false, false, false, false, false] _ W0
 refine ZaZ 0 ?_ ?_ ?_ (by rw [hops.out]; kernel_rfl) ?_ ?_ (by assumption) ?_
 rotate_left 2
 ·rw [hops.out]; unfold wOps; simp only [getS]; rfl
 ·intro W hW; obtain ⟨k1, k2⟩ := hW; go_simp <;> with_reducible rfl
 ·exact fun c _ w h => hpan c _ _ w h
 try simp only [putS]
 refine ZaZ 1 ?_ ?_ ?_ (by rw [hops.out]; kernel_rfl) ?_ ?_ (by assumption) ?_
 rotate_left 2
 ·rw [hops.out]; unfold wOps; simp only [getS]; rfl
 ·intro W hW; obtain ⟨k1, k2⟩ := hW; go_simp <;> with_reducible rfl
 ·exact fun c _ w h => hpan c _ _ w h
 try simp only [putS]
 refine ZaZ 2 ?_ ?_ ?_ (by rw [hops.out]; kernel_rfl) ?_ ?_ (by assumption) ?_
 rotate_left 2
 ·rw [hops.out]; unfold wOps; simp only [getS]; rfl
 ·intro W hW; obtain ⟨k1, k2⟩ := hW; go_simp <;> with_reducible rfl
 ·exact fun c _ w h => hpan c _ _ w h
 try simp only [putS]
 refine ZaZ 3 ?_ ?_ ?_ (by rw [hops.out]; kernel_rfl) ?_ ?_ (by assumption) ?_
 rotate_left 2
 ·rw [hops.out]; unfold wOps; simp only [getS]; rfl
 ·intro W hW; obtain ⟨k1, k2⟩ := hW; go_simp <;> with_reducible rfl
 ·exact fun c _ w h => hpan c _ _ w h
 try simp only [putS]
 refine ZaZ 4 ?_ ?_ ?_ (by rw [hops.out]; kernel_rfl) ?_ ?_ (by assumption) ?_
 rotate_left 2
 ·rw [hops.out]; unfold wOps; simp only [getS]; rfl
 ·intro W hW; obtain ⟨k1, k2⟩ := hW; go_simp <;> with_reducible rfl
 ·exact fun c _ w h => hpan c _ _ w h
 try simp only [putS]
 refine ZaZ 5 ?_ ?_ ?_ (by rw [hops.out]; kernel_rfl) ?_ ?_ (by assumption) ?_
 rotate_left 2
 ·rw [hops.out]; unfold wOps; simp only [getS]; rfl
 ·intro W hW; obtain ⟨k1, k2⟩ := hW; go_simp <;> with_reducible rfl
 ·exact fun c _ w h => hpan c _ _ w h
 try simp only [putS]
 refine ZaZ 7 ?_ ?_ ?_ (by rw [hops.out]; kernel_rfl) ?_ ?_ (by assumption) ?_
 rotate_left 2
 ·rw [hops.out]; unfold wOps; simp only [getS]; rfl
 ·intro W hW; obtain ⟨k1, k2⟩ := hW; go_simp <;> with_reducible rfl
 ·exact fun c _ w h => hpan c _ _ w h
 try simp only [putS]
 refine ZaZ 8 ?_ ?_ ?_ (by rw [hops.out]; kernel_rfl) ?_ ?_ (by assumption) ?_
 rotate_left 2
 ·rw [hops.out]; unfold wOps; simp only [getS]; rfl
 ·intro W hW; obtain ⟨k1, k2⟩ := hW; go_simp <;> with_reducible rfl
 ·exact fun c _ w h => hpan c _ _ w h
 try simp only [putS]
 refine ZaZ 9 ?_ ?_ ?_ (by rw [hops.out]; kernel_rfl) ?_ ?_ (by assumption) ?_
 rotate_left 2
 ·rw [hops.out]; unfold wOps; simp only [getS]; rfl
 ·intro W hW; obtain ⟨k1, k2⟩ := hW; go_simp <;> with_reducible rfl
 ·exact fun c _ w h => hpan c _ _ w h
 try simp only [putS]
 refine ZaZ 10 ?_ ?_ ?_ (by rw [hops.out]; kernel_rfl) ?_ ?_ (by assumption) ?_
 rotate_left 2
 ·rw [hops.out]; unfold wOps; simp only [getS]; rfl
 ·intro W hW; obtain ⟨k1, k2⟩ := hW; go_simp <;> with_reducible rfl
 ·exact fun c _ w h => hpan c _ _ w h
 try simp only [putS]
 refine Zak 6 (oi := ?_) ?_ (by rw [hops.out]; kernel_rfl) ?_ ?_
 rotate_left 1
 ·rw [hops.out]; unfold wOps; simp only [getS]; rfl
 ·rw [hops.out]; kernel_rfl
 intro K hK
 go_simp
 refine hK.out _ _ (hS1 _ (Zdw W0 _)) (fun hS => ?_)
 clear hK K
 try simp only [putS]
 refine Zak 11 (oi := ?_) ?_ (by rw [hops.out]; kernel_rfl) ?_ ?_
 rotate_left 1
 ·rw [hops.out]; unfold wOps; simp only [getS]; rfl
 ·rw [hops.out]; kernel_rfl
 intro K hK
 refine ZgM Zdj (by omega) Zch (by omega) _ _ _ 34 rfl W0.heap.size 3 Tryz.underlying34 (.int .i64 0) rfl Tryz.info3 (.slice (some ⟨W0.heap.size, 0, none⟩) 0 0) [] rfl (Zcz _ _ _ rfl (Nat.le_refl _)) 0 (.slice pv hl.length qv) hl rfl (hRV.alloc _) (by simp; omega) (by simp) ?_
 intro x W2 hox hgrow
 rw [List.nil_append] at hox
 obtain ⟨na, nc, rfl⟩ := Zac hox
 simp only [Value.ownBlock] at hgrow
 have k12 : ∀ k, k < W0.heap.size -> W2.heap[k]? = W0.heap[k]? := fun k hk => (hgrow.block k (by simp; omega) (by simp; omega)).trans (Zdw W0 _ k hk)
 have s12 : W0.heap.size < W2.heap.size := by have := hgrow.size; simp at this; omega
 have B2 : Below W0.heap.size W0 W2 := ((Below.refl _ _).alloc (Nat.le_refl _) _).grown hgrow (by simp) (fun k hk => by simp at hk; omega)
 refine hK.out _ _ (hS1 _ k12) (fun hS => ?_)
 clear hK K
 try simp only [putS]
 refine ZaZ 12 ?_ ?_ ?_ (by rw [hops.out]; kernel_rfl) ?_ ?_ (by assumption) ?_
 rotate_left 2
 ·rw [hops.out]; unfold wOps; simp only [getS]; rfl
 ·intro W hW; obtain ⟨k1, k2⟩ := hW; go_simp <;> with_reducible rfl
 ·exact fun c _ w h => hpan c _ _ w h
 try simp only [putS]
 refine Zak 13 (oi := ?_) ?_ (by rw [hops.out]; kernel_rfl) ?_ ?_
 rotate_left 1
 ·rw [hops.out]; unfold wOps; simp only [getS]; rfl
 ·rw [hops.out]; kernel_rfl
 intro K hK
 go_simp
 refine hK.out _ _ (hS1 _ (fun k hk => (Zdw W2 _ k (by omega)).trans (k12 k hk))) (fun hS => ?_)
 clear hK K
 try simp only [putS]
 refine Zak 14 (oi := ?_) ?_ (by rw [hops.out]; kernel_rfl) ?_ ?_
 rotate_left 1
 ·rw [hops.out]; unfold wOps; simp only [getS]; rfl
 ·rw [hops.out]; kernel_rfl
 intro K hK
 have rw3 := Zae hWO.row (B2.alloc B2.size (.cells #[.int .i64 (v : Int), .int .i64 cv, .slice na hl.length nc] 46)) (Nat.le_refl _)
 refine Zfl Za9 (by omega) (⟨(v : Int), cv, hl⟩, .slice na hl.length nc) (Zc1 _ _ _ _) (by omega) _ _ _ 39 rfl lo 46 Tryz.underlying39 (.agg (wayC Zbc (.slice none 0 0))) rfl Tryz.infoWay (.slice ua qs.length uc) qs rfl rw3 ⟨W2.heap.size, 0, none⟩ 1 rfl (Zan (cs := encW (⟨(v : Int), cv, hl⟩, .slice na hl.length nc))) (by omega) (by simp; omega) ?_
 intro x W4 l' hl' hox2 hgrow2
 rw [hl'.out] at hox2
 have ow := hWO.push (p := (⟨(v : Int), cv, hl⟩, .slice na hl.length nc)) (B2.alloc B2.size _) hlo ⟨hox.alloc (.cells #[.int .i64 (v : Int), .int .i64 cv, .slice na hl.length nc] 46), fun k hk => by have := (hox.lt k hk).2; simp; omega⟩ (by simpa using hox2) hgrow2
 have k4 : ∀ k, k < W0.heap.size -> some k ≠ (Value.slice ua qs.length uc).ownBlock -> W4.heap[k]? = W0.heap[k]? := fun k hk hne => (hgrow2.block k (by simp; omega) hne).trans ((Zdw W2 _ k (by omega)).trans (k12 k hk))
 have B4 : Below lo W0 W4 := ((B2.alloc B2.size _).mono hlo).grown hgrow2 (by simp; omega) (fun k hk => (hWO.row.lt k hk).1)
 rw [List.length_append, List.length_singleton] at hox2
 obtain ⟨xa, xc, rfl⟩ := Zac hox2
 refine hK.out _ _ ⟨?_, ?_⟩ (fun hS => ?_)
 ·rw [World.cell?_of_block (k4 b (Zab hb) (Zaq hWO.row hb (by decide)))]; exact h1
 ·rw [World.cell?_of_block (k4 (b + 1) (Zab hh) (Zaq hWO.row hh (by decide)))]; exact h2
 clear hK K
 try simp only [putS]
 refine ZaZ 15 ?_ ?_ ?_ (by rw [hops.out]; kernel_rfl) ?_ ?_ (by assumption) ?_
 rotate_left 2
 ·rw [hops.out]; unfold wOps; simp only [getS]; rfl
 ·intro W hW; obtain ⟨k1, k2⟩ := hW; go_simp <;> with_reducible rfl
 ·exact fun c _ w h => hpan c _ _ w h
 try simp only [putS]
 refine wpAnyH_done (by rw [hops.out]; kernel_rfl) ?_ _
 exact hend _ xa xc na nc W2.heap.size ow k4 B4
end Go.Proofs.YtakiifededfjlaaGreat
