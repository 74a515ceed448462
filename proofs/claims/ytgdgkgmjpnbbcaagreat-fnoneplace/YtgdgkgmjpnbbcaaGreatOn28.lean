/-
  OwnW IThings
-/
import Derived.Test.YtgdgkgmjpnbbcaaGreatOn21
import Derived.Test.YtgdgkgmjpnbbcaaGreatOn10
import Derived.Test.YtgdgkgmjpnbbcaaGreatOn27
import Derived.Test.YtgdgkgmjpnbbcaaGreatOn3
namespace Go.Proofs.YtgdgkgmjpnbbcaaGreat
open Go.RowKit
set_option linter.unusedSimpArgs false
set_option linter.unusedVariables false
set_option maxRecDepth 100000
set_option maxHeartbeats 8000000
def ownD (ds es:List WayD)(src o:Int):WayD:=(ZbQ ds es src o).getD Zbg
def ownB (ds es:List WayD)(src o:Int):Bool:=(ZbQ ds es src o).isSome
theorem ZkE (ds es:List WayD)(src o:Int):(ownB ds es src o=true/\ZbQ ds es src o=some (ownD ds es src o))\/(ownB ds es src o=false/\ZbQ ds es src o=none/\ownD ds es src o=Zbg):=by
 unfold ownB ownD;cases e:ZbQ ds es src o with
 | none=>exact .inr ⟨rfl,rfl,rfl⟩
 | some w=>exact .inl ⟨rfl,rfl⟩
theorem ZkF (ds es:List WayD)(src:Int):ownD ds es src src=⟨src,0,[]⟩/\ownB ds es src src=true:=by
 unfold ownD ownB ZbQ;rw [if_pos rfl];exact⟨rfl,rfl⟩
theorem Zlj {ds es:List WayD}{src o:Int}(h:o≠src)(hb:Za3 ds o=true):ownD ds es src o=ZaY ds o/\ownB ds es src o=true:=by
 unfold ownD ownB ZbQ;rw [if_neg h,Zcu];unfold Za3 at hb;unfold ZaY ZaQ;cases e:ds.find? (fun x=>x.to==o) with
 | none=>rw [e] at hb;cases hb
 | some w=>exact ⟨rfl,rfl⟩
theorem Zli {ds es:List WayD}{src o:Int}(h:o≠src)(hb:Za3 ds o=false):ownD ds es src o=ZaY es o/\ownB ds es src o=Za3 es o:=by
 unfold ownD ownB ZbQ;rw [if_neg h,Zcu];unfold Za3 at hb;unfold ZaY Za3 ZaQ;cases e:ds.find? (fun x=>x.to==o) with
 | none=>exact ⟨by simp,by simp⟩
 | some w=>rw [e] at hb;cases hb
theorem Zn8 {ds es:List WayD}{src o:Int}(h:o≠src):ownD ds es src o=ZaY (ds++es) o/\ownB ds es src o=Za3 (ds++es) o:=by
 unfold ownD ownB ZbQ;rw [if_neg h];exact⟨rfl,rfl⟩
theorem ZjZ {W:World}{z:Nat}{c0 c1 c2:Value}(B:Nat)(x:WayD)(v:Value)(hz:W.heap[z]? = some (.cells #[c0,c1,c2] 48))(ho:W.ownsRow B 3 1 v x.hops.length (flat intE x.hops)):
  (Za7 W z x v).heap[z]? = some (.cells (wayC x v) 48)/\(Za7 W z x v).ownsRow B 3 1 v x.hops.length (flat intE x.hops)/\Below z W (Za7 W z x v):=by
 have G:=Za1 W z x v;refine⟨Zdc x v hz,Zao ho (fun k hk=>G.block k (ho.lt k hk).2 (fun e=>Zan ho hz (by decide) (by rw [hk];exact e.symm))),(Below.refl z W).grown G ?_ (fun k hk=>by simp at hk;omega)⟩
 have:=Zab hz;omega
theorem Zlz (v u:Value)(ws bs:List WP)(lo hi lo2 hi2:Nat)(o src:Int)(w:World)(hv:WaysOwn w lo hi v ws)(hhi:hi<=w.heap.size)(hn:totW ws<=1048576)(hu:WaysOwn w lo2 hi2 u bs)(hhi2:hi2<=w.heap.size)(hn2:totW bs<=1048576):
  Calls Tryz.prog 84 #[v,u,.int .i64 o,.int .i64 src] w fun e w'=>∃ x,e=.returned (.tuple #[.agg (wayC (ownD (Zag ws) (Zag bs) src o) x),.bool (ownB (Zag ws) (Zag bs) src o)])/\w'.ownsRow w.heap.size 3 1 x (ownD (Zag ws) (Zag bs) src o).hops.length (flat intE (ownD (Zag ws) (Zag bs) src o).hops)/\Below w.heap.size w w':=by
 obtain⟨a1,c1,rfl⟩:=Zac hv.row;obtain⟨a2,c2,rfl⟩:=Zac hu.row;have H1:=hide (fun W (hb:Below w.heap.size w W)=>ZbT (.slice a1 ws.length c1) ws lo hi o W (hv.below hb hhi) (Nat.le_trans hhi hb.size) hn)
 have H2:=hide (fun W (hb:Below w.heap.size w W)=>ZbT (.slice a2 bs.length c2) bs lo2 hi2 o W (hu.below hb hhi2) (Nat.le_trans hhi2 hb.size) hn2)
 clear hv hu;have HS:=hide (ZkF (Zag ws) (Zag bs) src);have HW:=hide (Zlj (ds:=Zag ws) (es:=Zag bs) (src:=src) (o:=o));have HB:=hide (Zli (ds:=Zag ws) (es:=Zag bs) (src:=src) (o:=o));obtain⟨D,hD⟩:∃ D,D=ownD (Zag ws) (Zag bs) src o:=⟨_,rfl⟩;obtain⟨F,hF⟩:∃ F,F=ownB (Zag ws) (Zag bs) src o:=⟨_,rfl⟩;rw [<-hD, <-hF];have HD:=hide hD;have HF:=hide hF;clear hD hF;have BX:Below w.heap.size w (w.alloc (.cells #[.int .i64 0,.int .i64 0,.slice none 0 0] 48)):=(Below.refl _ _).alloc (Nat.le_refl _) _;have hq:=heap_alloc_new w (.cells #[.int .i64 0,.int .i64 0,.slice none 0 0] 48);have hs0:=Zab hq;unfold wayC at H1 H2;by_cases ho:o=src
 ·subst ho
  have hDe:D=⟨o,0,[]⟩:=HD.out.trans HS.out.1;have hFe:F=true:=HF.out.trans HS.out.2;subst hDe hFe;have hd:(o==o)=true:=by simp
  have FF:=hide (heap_alloc_new w (.cells (wayC ⟨o,0,[]⟩ (.slice none 0 0)) 48));clear H1 H2 HS HW HB HD HF hq BX hs0;unfold wayC
  go_enter Tryz.func84,Tryz.ntmps84
  go_wp2_with fail
  (try simp only [Exit.inBlock,Exit.then])
  refine bodyPost_ret (Zax rfl _ _ w.heap.size 48 (wayC ⟨o,0,[]⟩ (.slice none 0 0)) (0,0) _ rfl FF.out Tryz.underlying48 rfl (by kernel_rfl)) rfl ?_
  exact⟨.slice none 0 0,rfl,World.ownsRow_nil _ _ _ _,(Below.refl _ _).alloc (Nat.le_refl _) _⟩
 have hd:(o==src)=false:=by simpa using ho
 have HO:=hide ho;clear ho;obtain⟨w0,hw0⟩:∃ W,W=w.alloc (.cells #[.int .i64 0,.int .i64 0,.slice none 0 0] 48):=⟨_,rfl⟩;rw [<-hw0] at BX hq hs0;have C1:=H1.out w0 BX;obtain⟨D1,hD1⟩:∃ D,D=ZaY (Zag ws) o:=⟨_,rfl⟩;obtain⟨F1,hF1⟩:∃ F,F=Za3 (Zag ws) o:=⟨_,rfl⟩;rw [<-hD1, <-hF1] at C1;have HC1:=hide C1;have HQ:=hide hq;have HD1:=hide hD1;have HF1:=hide hF1;have HBX:=hide BX;clear C1 hq hD1 hF1 H1 HS;unfold wayC
 go_enter Tryz.func84,Tryz.ntmps84
 go_wp2_with fail
 rw [<-hw0];refine HC1.out.mono ?_
 rintro e w2 ⟨x1,rfl,ho1,b1⟩;obtain⟨xa,xc,rfl⟩:=Zac ho1;have hb1:=b1.size;have BA:=(Below.refl w2.heap.size w2).alloc (Nat.le_refl _) (.cells #[.int .i64 D1.to,.int .i64 D1.cost,.slice xa D1.hops.length xc] 48);have hz2:=(b1.block _ hs0).trans HQ.out;have hz3:=(BA.block _ (Zab hz2)).trans hz2;have hbx:=HBX.out.size;have B2:Below w.heap.size w w2:=HBX.out.trans (b1.mono hbx);have hl2:=Zab hz2;cases F1
 ·have hh:=HB.out HO.out HF1.out.symm
  have hDe:=HD.out.trans hh.1;have hFe:=HF.out.trans hh.2;have C2:=H2.out (w2.alloc (.cells #[.int .i64 D1.to,.int .i64 D1.cost,.slice xa D1.hops.length xc] 48)) (B2.trans (BA.mono (by omega)))
  rw [<-hDe, <-hFe] at C2;have HC2:=hide C2;have HZ3:=hide hz3;have HBA:=hide BA;have HB2:=hide B2;clear C2 hh hDe hFe H2 HB HW ho1 hz2 hz3 BA B2 HC1
  go_wp2_with fail
  refine HC2.out.mono ?_
  rintro e w4 ⟨x2,rfl,ho2,b2⟩;obtain⟨ya,yc,rfl⟩:=Zac ho2;have hb2:=b2.size;have hba:=HBA.out.size;have hz4:=(b2.block _ (Zab HZ3.out)).trans HZ3.out;have u0:=Zaa hz4 0;have u1:=Zaa hz4 1;have u2:=Zaa hz4 2;simp at u0 u1 u2
  have fu:=Zae hz4;have EE:=ZjZ w.heap.size D (.slice ya D.hops.length yc) hz4 (Zah ho2 (by omega))
  have FF:=hide EE.1;have OO:=hide EE.2.1;have BB:=hide ((HB2.out.trans ((HBA.out.mono (by omega)).trans (b2.mono (by omega)))).trans EE.2.2)
  clear EE hz4 ho2 b2 HZ3 HBA HB2 HC2
  go_wp2_with fail
  (try simp only [Exit.inBlock,Exit.then])
  refine bodyPost_ret (Zax rfl _ _ w.heap.size 48 (wayC D (.slice ya D.hops.length yc)) (0,0) _ rfl FF.out Tryz.underlying48 rfl (by kernel_rfl)) rfl ?_
  exact⟨_,rfl,OO.out,BB.out⟩
 ·have hh:=HW.out HO.out HF1.out.symm
  have hDe:D1=D:=HD1.out.trans (HD.out.trans hh.1).symm;have hFe:F=true:=HF.out.trans hh.2;subst hDe hFe;have hx:=heap_alloc_new w2 (.cells #[.int .i64 D1.to,.int .i64 D1.cost,.slice xa D1.hops.length xc] 48);have e0:=Zaa hx 0;have e1:=Zaa hx 1;have e2:=Zaa hx 2;simp at e0 e1 e2
  have u0:=Zaa hz2 0;have u1:=Zaa hz2 1;have u2:=Zaa hz2 2;simp at u0 u1 u2
  have fu:=Zae hz2;have hzn:w.heap.size≠w2.heap.size:=by omega
  have EE:=ZjZ w.heap.size D1 (.slice xa D1.hops.length xc) hz2 (Zah ho1 (by omega))
  have FF:=hide (show ((Za7 w2 w.heap.size D1 (.slice xa D1.hops.length xc)).alloc (.cells #[.int .i64 D1.to,.int .i64 D1.cost,.slice xa D1.hops.length xc] 48)).heap[w.heap.size]? = some (.cells (wayC D1 (.slice xa D1.hops.length xc)) 48) by rw [Below.heap_alloc _ _ _ (Zab EE.1)];exact EE.1)
  have OO:=hide (EE.2.1.alloc (.cells #[.int .i64 D1.to,.int .i64 D1.cost,.slice xa D1.hops.length xc] 48));have BB:=hide ((B2.trans EE.2.2).alloc (Nat.le_of_lt (Zab EE.1)) (.cells #[.int .i64 D1.to,.int .i64 D1.cost,.slice xa D1.hops.length xc] 48));clear EE hz2 hz3 ho1 b1 H2 HB HW HC1 BA B2 hx
  go_wp2_with fail
  (try simp only [Exit.inBlock,Exit.then])
  refine bodyPost_ret (Zax rfl _ _ w.heap.size 48 (wayC D1 (.slice xa D1.hops.length xc)) (0,0) _ rfl FF.out Tryz.underlying48 rfl (by kernel_rfl)) rfl ?_
  exact⟨_,rfl,OO.out,BB.out⟩
theorem Zk9 (v:Value)(cs:List WP)(ds es:List WayD)(hc:Zag cs=ds++es)(o src:Int)(w:World)
  (H1:∀ W,Below w.heap.size w W->Calls Tryz.prog 25 #[v,.int .i64 o] W fun e w'=>∃ u,e=.returned (.tuple #[.agg (wayC (ZaY (Zag cs) o) u),.bool (Za3 (Zag cs) o)])/\w'.ownsRow W.heap.size 3 1 u (ZaY (Zag cs) o).hops.length (flat intE (ZaY (Zag cs) o).hops)/\Below W.heap.size W w') (hsh:∃ a n c,v=.slice a n c):
  Calls Tryz.prog 68 #[v,.int .i64 o,.int .i64 src] w fun e w'=>∃ x,e=.returned (.tuple #[.agg (wayC (ownD ds es src o) x),.bool (ownB ds es src o)])/\w'.ownsRow w.heap.size 3 1 x (ownD ds es src o).hops.length (flat intE (ownD ds es src o).hops)/\Below w.heap.size w w':=by
 obtain⟨a1,n1,c1,rfl⟩:=hsh;rw [hc] at H1;have HS:=hide (ZkF ds es src);have HB:=hide (Zn8 (ds:=ds) (es:=es) (src:=src) (o:=o));obtain⟨D,hD⟩:∃ D,D=ownD ds es src o:=⟨_,rfl⟩;obtain⟨F,hF⟩:∃ F,F=ownB ds es src o:=⟨_,rfl⟩;rw [<-hD, <-hF];have HD:=hide hD;have HF:=hide hF;clear hD hF hc;have BX:Below w.heap.size w (w.alloc (.cells #[.int .i64 0,.int .i64 0,.slice none 0 0] 48)):=(Below.refl _ _).alloc (Nat.le_refl _) _;have hq:=heap_alloc_new w (.cells #[.int .i64 0,.int .i64 0,.slice none 0 0] 48);have hs0:=Zab hq;by_cases ho:o=src
 ·subst ho
  have hDe:D=⟨o,0,[]⟩:=HD.out.trans HS.out.1;have hFe:F=true:=HF.out.trans HS.out.2;subst hDe hFe;have hd:(o==o)=true:=by simp
  have FF:=hide (heap_alloc_new w (.cells (wayC ⟨o,0,[]⟩ (.slice none 0 0)) 48));clear H1 HS HB HD HF hq BX hs0;unfold wayC
  go_enter Tryz.func68,Tryz.ntmps68
  go_wp2_with fail
  (try simp only [Exit.inBlock,Exit.then])
  refine bodyPost_ret (Zax rfl _ _ w.heap.size 48 (wayC ⟨o,0,[]⟩ (.slice none 0 0)) (0,0) _ rfl FF.out Tryz.underlying48 rfl (by kernel_rfl)) rfl ?_
  exact⟨.slice none 0 0,rfl,World.ownsRow_nil _ _ _ _,(Below.refl _ _).alloc (Nat.le_refl _) _⟩
 have hd:(o==src)=false:=by simpa using ho
 have hh:=HB.out ho;have hDe:=HD.out.trans hh.1;have hFe:=HF.out.trans hh.2;rw [<-hDe, <-hFe] at H1;clear ho hh hDe hFe HB HS HD HF;obtain⟨w0,hw0⟩:∃ W,W=w.alloc (.cells #[.int .i64 0,.int .i64 0,.slice none 0 0] 48):=⟨_,rfl⟩;rw [<-hw0] at BX hq hs0;have HC1:=hide (H1 w0 BX);have HQ:=hide hq;have HBX:=hide BX;clear hq H1 BX;unfold wayC at HC1 |-
 go_enter Tryz.func68,Tryz.ntmps68
 go_wp2_with fail
 rw [<-hw0];refine HC1.out.mono ?_
 rintro e w2 ⟨x1,rfl,ho1,b1⟩;obtain⟨xa,xc,rfl⟩:=Zac ho1;have hb1:=b1.size;have hz3:=(b1.block _ hs0).trans HQ.out;have hbx:=HBX.out.size;have B2:Below w.heap.size w w2:=HBX.out.trans (b1.mono hbx);have u0:=Zaa hz3 0;have u1:=Zaa hz3 1;have u2:=Zaa hz3 2;simp at u0 u1 u2
 have fu:=Zae hz3;have EE:=ZjZ w.heap.size D (.slice xa D.hops.length xc) hz3 (Zah ho1 (by omega))
 have FF:=hide EE.1;have OO:=hide EE.2.1;have BB:=hide (B2.trans EE.2.2);clear EE hz3 ho1 b1 HC1 B2 HQ HBX
 go_wp2_with fail
 (try simp only [Exit.inBlock,Exit.then])
 refine bodyPost_ret (Zax rfl _ _ w.heap.size 48 (wayC D (.slice xa D.hops.length xc)) (0,0) _ rfl FF.out Tryz.underlying48 rfl (by kernel_rfl)) rfl ?_
 exact⟨_,rfl,OO.out,BB.out⟩
def offQ (r:RecD)(d:WayD):RtD:=if r.far then ⟨true,r.key,4,d.cost,r.cost,d.hops⟩ else ⟨true,r.key,3,r.cost+d.cost,0,d.hops⟩
theorem ZmA (r:RecD)(d:WayD):wOf (offQ r d)=⟨r.key,ZfH r.far r.cost d.cost,d.hops⟩:=by
 unfold offQ ZfH wOf;cases r.far <;> simp
theorem Zmz (r:RecD)(d:WayD):(offQ r d).hops=d.hops:=by unfold offQ;split <;> rfl
theorem Zo5 {xs:List RecD}{ds es:List WayD}{src:Int}{r:RecD}{d:WayD}(hs:ZaE xs=true)(hr:r∈xs)(hd:Zdw ds)(he:Zdw es)(hk:r.kind=3)(hc:r.cost<60000)(ho:ZbQ ds es src r.owner=some d):OffR (offQ r d):=by
 have h1:=Zd1 hs hr hk hc;have h2:=ZcV hd he ho;unfold offQ;cases hf:r.far
 ·rw [if_neg (by simp)]
  exact⟨rfl,.inl ⟨rfl,rfl⟩,by show 0<=r.cost+d.cost/\r.cost+d.cost<=61000;omega,by simp,h2.2.1,h2.2.2,h1.1⟩
 ·rw [if_pos rfl]
  exact⟨rfl,.inr rfl,by show 0<=d.cost/\d.cost<=61000;omega,by show 0<=r.cost/\r.cost<=1000;omega,h2.2.1,h2.2.2,h1.1⟩
theorem ZmB (r:RecD)(d:WayD)(na ua:Option Addr)(nn nc un uc:Nat)(w:World)(hr:0<=r.cost/\r.cost<=60000)(hd:0<=d.cost/\d.cost<=60000):
  Calls Tryz.prog 69 #[.agg (recC r (.slice na nn nc)),.agg (wayC d (.slice ua un uc))] w fun e w'=>e=.returned (.agg (rtC (offQ r d) (.slice ua un uc)))/\Below w.heap.size w w':=by
 cases hf:r.far
 ·skip
  have hoq:offQ r d=⟨true,r.key,3,r.cost+d.cost,0,d.hops⟩:=by unfold offQ;rw [hf];rfl
  rw [hoq];clear hoq;unfold rtC recC wayC;rw [hf];have BB:=hide ((Za6 (w:=w) (.cells #[.int .i64 r.area,.int .i64 r.kind,.int .i64 r.owner,.int .i64 r.key,.int .i64 r.seq,.slice na nn nc,.int .i64 r.cost,.bool false] 59) (.cells #[.int .i64 d.to,.int .i64 d.cost,.slice ua un uc] 48)).alloc (by simp;omega) (.cells #[.bool true,.int .i64 r.key,.int .i64 3,.int .i64 (r.cost+d.cost),.int .i64 (0),.slice ua un uc] 44))
  clear hf
  go_enter Tryz.func69,Tryz.ntmps69
  go_wp2
  go_returns
  exact⟨rfl,BB.out⟩
 ·skip
  have hoq:offQ r d=⟨true,r.key,4,d.cost,r.cost,d.hops⟩:=by unfold offQ;rw [hf];rfl
  rw [hoq];clear hoq;unfold rtC recC wayC;rw [hf];have BB:=hide ((Za6 (w:=w) (.cells #[.int .i64 r.area,.int .i64 r.kind,.int .i64 r.owner,.int .i64 r.key,.int .i64 r.seq,.slice na nn nc,.int .i64 r.cost,.bool true] 59) (.cells #[.int .i64 d.to,.int .i64 d.cost,.slice ua un uc] 48)).alloc (by simp;omega) (.cells #[.bool true,.int .i64 r.key,.int .i64 4,.int .i64 (d.cost),.int .i64 (r.cost),.slice ua un uc] 44))
  clear hf
  go_enter Tryz.func69,Tryz.ntmps69
  go_wp2
  go_returns
  exact⟨rfl,BB.out⟩
def OffK (xs:List RecD)(ds es:List WayD)(src:Int)(k:Nat)(ys:List RtD):Prop:=∀ y,y∈ys↔∃ r∈xs.take k,r.kind=3/\r.cost<60000/\∃ d,ZbQ ds es src r.owner=some d/\y=offQ r d
theorem OffK.quiet {xs:List RecD}{ds es:List WayD}{src:Int}{k:Nat}{ys:List RtD}{r:RecD}(h:OffK xs ds es src k ys)(hr:xs[k]? = some r)(hn:r.kind=3->r.cost<60000->ZbQ ds es src r.owner=none):OffK xs ds es src (k+1) ys:=by
 obtain⟨hk,e⟩:=List.getElem?_eq_some_iff.1 hr;intro y;rw [h y,List.take_succ_eq_append_getElem hk,e]
 constructor
 ·rintro ⟨x,hx,ht⟩
  exact⟨x,List.mem_append.2 (.inl hx),ht⟩
 ·rintro ⟨x,hx,h1,h2,d,h3,h4⟩
  rcases List.mem_append.1 hx with h5 | h5
  ·exact ⟨x,h5,h1,h2,d,h3,h4⟩
  ·have:x=r:=by simpa using h5
   subst this;rw [hn h1 h2] at h3;cases h3
theorem OffK.more {xs:List RecD}{ds es:List WayD}{src:Int}{k:Nat}{ys:List RtD}{r:RecD}{d:WayD}(h:OffK xs ds es src k ys)(hr:xs[k]? = some r)(h1:r.kind=3)(h2:r.cost<60000)(h3:ZbQ ds es src r.owner=some d):OffK xs ds es src (k+1) (ys++[offQ r d]):=by
 obtain⟨hk,e⟩:=List.getElem?_eq_some_iff.1 hr;intro y;rw [List.mem_append,h y,List.take_succ_eq_append_getElem hk,e]
 constructor
 ·rintro (⟨x,hx,ht⟩ | h4)
  ·exact ⟨x,List.mem_append.2 (.inl hx),ht⟩
  ·have:y=offQ r d:=by simpa using h4
   exact⟨r,List.mem_append.2 (.inr (by simp)),h1,h2,d,h3,this⟩
 ·rintro ⟨x,hx,g1,g2,d',g3,g4⟩
  rcases List.mem_append.1 hx with h5 | h5
  ·exact .inl ⟨x,h5,g1,g2,d',g3,g4⟩
  ·have:x=r:=by simpa using h5
   subst this;rw [h3] at g3;cases g3
   exact .inr (by simp [g4])
theorem Zmy {xs:List RecD}{ds es:List WayD}{src:Int}{ys bs:List RtD}(h:OffK xs ds es src xs.length ys)(hb:ZcC ys bs):Zay (Zda xs ds es src) (bs.map wOf):=by
 unfold ZcC at hb;refine hb.congr (fun to d=>?_)
 constructor
 ·rintro ⟨q,hq,rfl,ht⟩
  obtain⟨r,hr,h1,h2,v,h3,rfl⟩:=(h q).1 hq;rw [List.take_length] at hr;exact⟨ht,r,hr,h1,h2,v,h3,ZmA r v⟩
 ·rintro ⟨ht,r,hr,h1,h2,v,h3,rfl⟩
  refine⟨offQ r v,(h _).2 ⟨r,by rw [List.take_length];exact hr,h1,h2,v,h3,rfl⟩,(ZmA r v).symm,?_⟩
  have:=congrArg WayD.to (ZmA r v);exact this.trans ht
theorem ZkJ {bs:List QP}(h:OffL bs):((ZaU bs).map wOf).map rtOf=ZaU bs:=by
 rw [List.map_map];have:∀ y∈ZaU bs,(rtOf ∘ wOf) y=y:=fun y hy=>by
  obtain⟨b,hb,rfl⟩:=List.mem_map.1 hy;exact (h b hb).rt
 conv=>rhs;rw [<-List.map_id (ZaU bs)]
 exact List.map_congr_left this
theorem ZgE {os:List QP}{p:QP}(h:OffL os)(hp:OffR p.1):OffL (os++[p]):=fun b hb=>by
 rcases List.mem_append.1 hb with h1 | h1
 ·exact h b h1
 ·have:b=p:=by simpa using h1
  subst this;exact hp
theorem ZjO (v vc:Value)(ps:List RP)(cs:List WP)(ds es:List WayD)(hc:Zag cs=ds++es)(hi lo2 hi2:Nat)(src:Int)(w:World)(hv:RecsIn w hi v ps)(hhi:hi<=w.heap.size)(hw:WaysOwn w lo2 hi2 vc cs)(hh2:hi2<=w.heap.size)(hnw:totW cs<=1048576)(hs:ZaE (fsts ps)=true)(hgd:Zdw ds)(hge:Zdw es):
  Calls Tryz.prog 29 #[v,vc,.int .i64 src] w fun e w'=>∃ x bs,e=.returned x/\OffL bs/\Zay (Zda (fsts ps) ds es src) ((ZaU bs).map wOf)/\RtsOwn w' w.heap.size w'.heap.size x bs/\Below w.heap.size w w':=by
 obtain⟨a0,c0,rfl⟩:=Zac hv.row;obtain⟨a1,c1,rfl⟩:=Zac hw.row;have hpl:ps.length<=150:=by
  unfold ZaE at hs;simp only [Bool.and_eq_true,decide_eq_true_eq] at hs
  have:=hs.1.1
  simpa [fsts] using this
 have HOW:=hide (fun (o:Int) W (hb:Below w.heap.size w W)=>Zk9 (.slice a1 cs.length c1) cs ds es hc o src W (fun W' hb'=>Zeb (.slice a1 cs.length c1) cs lo2 hi2 o W' ((hw.below hb hh2).below hb' (Nat.le_trans hh2 hb.size)) (Nat.le_trans (Nat.le_trans hh2 hb.size) hb'.size) hnw) ⟨_,_,_,rfl⟩)
 unfold wayC at HOW;have HV:=hide hv;have HRT:=hide (fun r (hr:r∈fsts ps)=>Zd1 hs hr)
 have HGO:=hide (fun o d (h:ZbQ ds es src o=some d)=>ZcV hgd hge h)
 have HOK:=hide (fun r d (hr:r∈fsts ps)=>Zo5 (src:=src) (d:=d) hs hr hgd hge)
 clear hv hw hs hgd hge hc
 go_enter Tryz.func29,Tryz.ntmps29
 go_wp2
 go_loopw [14,7] (fun i o wr=>∃ (k:Nat) (x:Value) (os:List QP),k<=ps.length/\i=.int .i64 (k:Int)/\o=x/\RtsOwn wr w.heap.size wr.heap.size x os/\Hid (OffK (fsts ps) ds es src k (ZaU os))/\OffL os/\os.length<=k/\Below w.heap.size w wr) (fun i _ _=>ps.length-(intOf i).toNat)
 case atStart=>exact ⟨0,_,[],by omega,rfl,rfl,⟨World.ownsRow_nil _ _ _ _,fun k hk=>by simp [Value.ownBlock] at hk,by simp,by simp⟩,hide (fun y=>by simp [ZaU]),fun b hb=>by simp at hb,by simp,Below.refl _ _⟩
 case round=>
  obtain⟨k,x,os,hk,rfl,rfl,hown,HM,hol,hql,BW⟩:=hrel;obtain⟨xa,xc,rfl⟩:=Zac hown.row;have hsz:=BW.size;by_cases hlt:k<ps.length
  ·obtain ⟨p,hp⟩:∃ p,ps[k]? = some p:=⟨ps[k],List.getElem?_eq_getElem hlt⟩
   obtain⟨bb,off,cap',hve,hbb,c0,c1,c2,c3,c4,c5,c6,c7,hnr⟩:=HV.out.at.cells k p hp;cases hve
   obtain⟨pa,pc,hpn⟩:=ZaB.shape hnr;rw [hpn] at c5;rw [<-BW.cell (p:=⟨bb,off+k*8,none⟩) (Nat.lt_of_lt_of_le hbb hhi)] at c0;rw [<-BW.cell (p:=⟨bb,off+k*8+1,none⟩) (Nat.lt_of_lt_of_le hbb hhi)] at c1;rw [<-BW.cell (p:=⟨bb,off+k*8+2,none⟩) (Nat.lt_of_lt_of_le hbb hhi)] at c2;rw [<-BW.cell (p:=⟨bb,off+k*8+3,none⟩) (Nat.lt_of_lt_of_le hbb hhi)] at c3;rw [<-BW.cell (p:=⟨bb,off+k*8+4,none⟩) (Nat.lt_of_lt_of_le hbb hhi)] at c4;rw [<-BW.cell (p:=⟨bb,off+k*8+5,none⟩) (Nat.lt_of_lt_of_le hbb hhi)] at c5;rw [<-BW.cell (p:=⟨bb,off+k*8+6,none⟩) (Nat.lt_of_lt_of_le hbb hhi)] at c6;rw [<-BW.cell (p:=⟨bb,off+k*8+7,none⟩) (Nat.lt_of_lt_of_le hbb hhi)] at c7;have HPP:=hide (Zbo hp);have HPM:=hide (List.mem_of_getElem? (Zbo hp));have BAL:Below wr.heap.size wr (wr.alloc (.cells #[.int .i64 p.1.area,.int .i64 p.1.kind,.int .i64 p.1.owner,.int .i64 p.1.key,.int .i64 p.1.seq,.slice pa p.1.near.length pc,.int .i64 p.1.cost,.bool p.1.far] 59)):=(Below.refl _ _).alloc (Nat.le_refl _) _;have hxl:=heap_alloc_new wr (.cells #[.int .i64 p.1.area,.int .i64 p.1.kind,.int .i64 p.1.owner,.int .i64 p.1.key,.int .i64 p.1.seq,.slice pa p.1.near.length pc,.int .i64 p.1.cost,.bool p.1.far] 59);obtain⟨wl,hwl⟩:∃ W,W=(wr.alloc (.cells #[.int .i64 p.1.area,.int .i64 p.1.kind,.int .i64 p.1.owner,.int .i64 p.1.key,.int .i64 p.1.seq,.slice pa p.1.near.length pc,.int .i64 p.1.cost,.bool p.1.far] 59)):=⟨_,rfl⟩;rw [<-hwl] at BAL hxl;have hki:(0:Int)<=(k:Int):=by omega
   have hkj:(k:Int)<(ps.length:Int):=by omega
   have HOL:=hide hol;have HOW2:=hide hown;have HBW:=hide BW;clear hp hnr hpn hol hown BW;by_cases hK:p.1.kind=3
   case neg=>
    have hd:(p.1.kind != 3)=true:=by simpa using hK
    have HhK:=hide hK;clear hK;have HN:=hide (show OffK (fsts ps) ds es src (k+1) (ZaU os) from HM.out.quiet HPP.out (fun h _=>absurd h HhK.out))
    have N1:=hide ((HOW2.out.below BAL (Nat.le_refl _)).wide (Nat.le_refl _) BAL.size);have N2:=hide (HBW.out.trans (BAL.mono hsz));rw [hwl] at N1 N2;clear HM HPP HPM HOW BAL hwl hxl HRT HGO HOK HOW2 HBW
    go_wp2
    go_roundw
    case rel=>exact ⟨k+1,_,os,by omega,by go_num,rfl,N1.out,HN,HOL.out,by omega,N2.out⟩
    case measure=>simp [intOf];omega
   have hdK:(p.1.kind != 3)=false:=by simpa using hK
   have HhK:=hide hK;clear hK;by_cases hC:p.1.cost<60000
   case neg=>
    have hd:p.1.cost>=60000:=by omega
    have HhC:=hide hC;clear hC;have HN:=hide (show OffK (fsts ps) ds es src (k+1) (ZaU os) from HM.out.quiet HPP.out (fun _ h=>absurd h HhC.out))
    have N1:=hide ((HOW2.out.below BAL (Nat.le_refl _)).wide (Nat.le_refl _) BAL.size);have N2:=hide (HBW.out.trans (BAL.mono hsz));rw [hwl] at N1 N2;clear HM HPP HPM HOW BAL hwl hxl HRT HGO HOK HOW2 HBW
    go_wp2
    go_roundw
    case rel=>exact ⟨k+1,_,os,by omega,by go_num,rfl,N1.out,HN,HOL.out,by omega,N2.out⟩
    case measure=>simp [intOf];omega
   have hdC:¬p.1.cost>=60000:=by omega
   have hrb:=HRT.out p.1 HPM.out HhK.out hC;have HhC:=hide hC;clear hC;have hfd:=ZkE ds es src p.1.owner;have HW:=HOW.out p.1.owner wl (HBW.out.trans (BAL.mono hsz));obtain⟨D,hD⟩:∃ D,D=ownD ds es src p.1.owner:=⟨_,rfl⟩;obtain⟨FB,hFB⟩:∃ F,F=ownB ds es src p.1.owner:=⟨_,rfl⟩;rw [<-hD, <-hFB] at HW hfd;have hx2:=Zaa hxl 2;simp at hx2
   rw [hwl] at hx2;have HXL:=hide hxl;have HWW:=hide HW;have HFD:=hide hfd;have HBL:=hide BAL;clear HW hfd hD hFB hxl BAL HOW
   go_wp2_with fail
   rw [<-hwl];clear hwl hx2;refine HWW.out.mono ?_
   rintro e w3 ⟨du,rfl,hdu,b3⟩;obtain⟨da,dc,rfl⟩:=Zac hdu;have hb3:=b3.size;have hbl:=HBL.out.size;have hxl3:=(b3.block _ (Zab HXL.out)).trans HXL.out;have B3:Below wr.heap.size wr w3:=HBL.out.trans (b3.mono hbl);have BA:Below w3.heap.size w3 (w3.alloc (.cells #[.int .i64 D.to,.int .i64 D.cost,.slice da D.hops.length dc] 48)):=(Below.refl _ _).alloc (Nat.le_refl _) _;have B4:Below wr.heap.size wr (w3.alloc (.cells #[.int .i64 D.to,.int .i64 D.cost,.slice da D.hops.length dc] 48)):=B3.trans (BA.mono (by omega))
   cases FB
   ·have HN:=hide (show OffK (fsts ps) ds es src (k+1) (ZaU os) from HM.out.quiet HPP.out (fun _ _=>by
     rcases HFD.out with ⟨h1,_⟩ | ⟨_,h2,_⟩
     ·cases h1
     ·exact h2))
    have N1:=hide ((HOW2.out.below B4 (Nat.le_refl _)).wide (Nat.le_refl _) B4.size);have N2:=hide (HBW.out.trans (B4.mono hsz));clear HM HPP HPM HBL B3 B4 BA HRT HGO HOK HOW2 HBW HFD hdu b3 hxl3 HXL HWW
    go_wp2
    go_roundw
    case rel=>exact ⟨k+1,_,os,by omega,by go_num,rfl,N1.out,HN,HOL.out,by omega,N2.out⟩
    case measure=>simp [intOf];omega
   have hfound:ZbQ ds es src p.1.owner=some D:=by
    rcases HFD.out with ⟨_,h2⟩ | ⟨h1,_⟩
    ·exact h2
    ·cases h1
   have hDg:=HGO.out p.1.owner D hfound;have HN:=hide (HM.out.more HPP.out HhK.out HhC.out hfound);have HNO:=hide (HOK.out p.1 D HPM.out HhK.out HhC.out hfound);have HOF:=hide (fun W=>ZmB p.1 D pa da p.1.near.length pc D.hops.length dc W (by omega) hDg.1)
   unfold recC wayC at HOF;have hxl4:=(BA.block _ (Zab hxl3)).trans hxl3;have hx4:=heap_alloc_new w3 (.cells #[.int .i64 D.to,.int .i64 D.cost,.slice da D.hops.length dc] 48);have r0:=Zaa hxl4 0;have r1:=Zaa hxl4 1;have r2:=Zaa hxl4 2;have r3:=Zaa hxl4 3;have r4:=Zaa hxl4 4;have r5:=Zaa hxl4 5;have r6:=Zaa hxl4 6;have r7:=Zaa hxl4 7;have d0:=Zaa hx4 0;have d1:=Zaa hx4 1;have d2:=Zaa hx4 2;simp only [List.getElem?_toArray,List.getElem?_cons_succ,List.getElem?_cons_zero] at r0 r1 r2 r3 r4 r5 r6 r7 d0 d1 d2
   have HB4:=hide B4;have HDU:=hide (hdu.alloc (.cells #[.int .i64 D.to,.int .i64 D.cost,.slice da D.hops.length dc] 48));have hwls:wr.heap.size<wl.heap.size:=Zab HXL.out;clear HM HPP HPM HBL B3 B4 BA HRT HGO HOK HFD hdu b3 hxl3 hxl4 hx4 HXL HWW hfound hDg
   go_wp2_with fail
   refine (HOF.out _).mono ?_
   rintro e w5 ⟨rfl,b5⟩;have B5:Below wr.heap.size wr w5:=HB4.out.trans (b5.mono HB4.out.size);have hd5:=Zaf HDU.out b5 (Nat.le_refl _);obtain⟨Q,hQ⟩:∃ Q,Q=offQ p.1 D:=⟨_,rfl⟩;have hQh:Q.hops=D.hops:=by rw [hQ];exact Zmz _ _
   rw [<-hQ] at HN HNO |-;rw [<-hQh] at hd5 |-;have HQO:=hide (show Zbl w5 wr.heap.size w5.heap.size (Q,.slice da Q.hops.length dc) from ⟨Zah hd5 (by omega),fun j hj=>(hd5.lt j hj).2⟩)
   have HB5:=hide B5;have hw5:=B5.size;clear hQ hQh hd5 HDU HB4 b5 HOF B5;unfold rtC;have BZ:=hide (HB5.out.alloc hw5 (.cells (encQ (Q,.slice da Q.hops.length dc)).toArray 44));have OW:=hide ((Zaf HOW2.out.row HB5.out (Nat.le_refl _)).alloc (.cells (encQ (Q,.slice da Q.hops.length dc)).toArray 44))
   go_wp2_with (first
    | (at_builtin;refine ZaL ZbR (by omega) (by omega) _ rfl _ _ 39 rfl w.heap.size 44 Tryz.underlying39 (.agg (rtC ZbB (.slice none 0 0))) rfl Tryz.infoRoute _ os (Q,.slice da Q.hops.length dc) (Zcp _ _ _ _) rfl OW.out ⟨w5.heap.size,0,none⟩ 1 rfl (Zap (cs:=encQ (Q,.slice da Q.hops.length dc))) (by omega) (by simp;omega) ?_))
   intro v' w6 hown' hgrow hat;have NW:=hide (HOW2.out.push BZ.out (((HQO.out.keep (W':=w5.alloc (.cells (encQ (Q,.slice da Q.hops.length dc)).toArray 44)) (fun j _ h2 h3=>((Below.refl w5.heap.size w5).alloc (Nat.le_refl _) (.cells (encQ (Q,.slice da Q.hops.length dc)).toArray 44)).block j h3)).wide hsz (by simp))) (fun b hb j hj e=>by
    have h1:=(HOW2.out.nears b hb).2 j hj;have h2:=(HQO.out.1.lt j e).1;omega) (by simpa using hown') hgrow)
   have N2:=hide ((HBW.out.trans (BZ.out.mono hsz)).grown hgrow (by have:=BZ.out.size;omega) (fun j hj=>(HOW2.out.row.lt j hj).1))
   have N3:=hide (show OffK (fsts ps) ds es src (k+1) (ZaU (os++[(Q,.slice da Q.hops.length dc)])) by rw [ZaS];exact HN.out)
   have N4:=hide (ZgE (p:=(Q,.slice da Q.hops.length dc)) HOL.out HNO.out);obtain⟨va,vc,rfl⟩:=Zac hown';clear hown' hgrow hat OW BZ HOW2 HQO HB5 HN HNO HBW HOL
   go_wp2
   go_roundw
   case rel=>exact ⟨k+1,_,os++[(Q,.slice da Q.hops.length dc)],by omega,by go_num,rfl,NW.out,N3,N4.out,by simp;omega,N2.out⟩
   case measure=>simp [intOf];omega
  ·have hkn:¬(k:Int)<(ps.length:Int):=by omega
   have HE:=hide (show OffK (fsts ps) ds es src (fsts ps).length (ZaU os) by have h:=HM.out;rw [show k=(fsts ps).length by simp [fsts];omega] at h;exact h)
   have HBE:=hide (Zno (.slice xa os.length xc) os w.heap.size wr hown hsz hol (by omega))
   have HBW:=hide BW;clear hown HM BW hol
   go_wp2_with fail
   refine HBE.out.mono ?_
   rintro e w3 ⟨y,bs,rfl,hbq,hol3,how3,b3⟩;obtain⟨ya,yc,rfl⟩:=Zac how3.row;have N1:=hide (Zmy HE.out hbq);have N2:=hide how3;have N3:=hide (HBW.out.trans b3);have N4:=hide hol3;clear hbq how3 b3 hol3 HBE HE
   go_wp2
   go_ret
   first
    | exact ⟨_,bs,rfl,N4.out,N1.out,N2.out,N3.out⟩
    | exact ⟨_,rfl,bs,N4.out,N1.out,N2.out,N3.out⟩
end Go.Proofs.YtgdgkgmjpnbbcaaGreat
