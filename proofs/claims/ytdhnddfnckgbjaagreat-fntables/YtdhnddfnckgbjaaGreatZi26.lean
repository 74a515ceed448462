/-
  Parts.
-/
import Derived.Test.YtdhnddfnckgbjaaGreatZi22
import Derived.Test.YtdhnddfnckgbjaaGreatZi25
import Derived.Deep.RegionHeldLaw
import Derived.Deep.AppendLies
namespace Go.Proofs.YtdhnddfnckgbjaaGreat
open Go.RowKit
set_option linter.unusedSimpArgs false
set_option linter.unusedVariables false
set_option maxRecDepth 100000
set_option maxHeartbeats 8000000
variable {hi lo:Nat}{v:Value}{W W':World}
def TyK (W W':World):Prop:=∀ (k:Nat) (cs:Array Value) (t:TypeId) (fr:Nat × Nat),W.heap[k]? = some (.cells cs t fr)->t≠57->W'.heap[k]? = W.heap[k]?
theorem TyK.refl (W:World):TyK W W:=fun _ _ _ _ _ _=>rfl
theorem TyK.trans {A B C:World}(h:TyK A B)(k:TyK B C):TyK A C:=fun j cs t fr h1 h2=>by
 have e:=h j cs t fr h1 h2;rw [<-e];exact k j cs t fr (e.trans h1) h2
theorem TyK.below (h:Below W.heap.size W W'):TyK W W':=fun j _ _ _ h1 _=>h.block j (Zab h1)
theorem TyK.grown {base n:Nat}{xs:List Value}(h:W.ownsRow base 57 6 v n xs)(hg:W.grownBy W' v.ownBlock):TyK W W':=fun j cs t fr h1 h2=>by
 refine hg.block j (Zab h1) (fun e=>?_);rcases h.2 with ⟨e0,_⟩ | ⟨g,cap,cur,e0,_,hh,_⟩
 ·rw [e0] at e;simp [Value.ownBlock] at e
 ·rw [e0] at e;simp [Value.ownBlock] at e;subst e;rw [hh] at h1;injection h1 with h1;injection h1 with _ h3 _;exact h2 h3.symm
theorem TyK.ways (h:TyK W W'){ps:List WP}(hw:WaysOwn W lo hi v ps):WaysOwn W' lo hi v ps:=hw.typed (by decide) (by decide) h
theorem TyK.hop (h:TyK W W'){q:QP}(hq:Za0 W lo hi q):Za0 W' lo hi q:=⟨ZcV hq.1 (by decide) h,hq.2⟩
theorem ZfS {r:Option Nat}(h:W.drew.grownBy W' r):W.grownBy W' r:=⟨h.os,h.tape,h.output,h.size,h.block⟩
theorem ZkB :∃ i,Tryz.prog.info? 57=some i/\i.zero=some (.agg (rtC ZbM (.slice none 0 0)))/\i.size=6/\i.bytes=64:=by
 have hi:=Tryz.infoRoute;cases hf:Tryz.prog.info? 57 with
 | none=>rw [hf] at hi;cases hi
 | some i0=>
  rw [hf] at hi;simp only [Option.map_some,Option.some.injEq,Prod.mk.injEq] at hi;exact⟨i0,rfl,hi.1,hi.2.1,hi.2.2⟩
theorem Zhd {ps:List WP}{k:Nat}{p:WP}(h:WaysOwn W lo hi v ps)(hp:ps[k]? = some p):∃ g cap,v=.slice (some ⟨g,0,none⟩) ps.length cap/\g<W.heap.size/\W.cell? ⟨g,k*3,none⟩=some (.int .i64 p.1.to)/\W.cell? ⟨g,k*3+1,none⟩=some (.int .i64 p.1.cost)/\W.cell? ⟨g,k*3+2,none⟩=some p.2/\∃ cs,W.heap[g]? = some (.cells cs 144):=by
 obtain⟨hk,_⟩:=YAD.1 hp;rcases h.row.2 with ⟨_,e0⟩ | ⟨g,cap,cur,e0,hb,hg,hnn,hm,hs,ht⟩
 ·omega
 ·have hc:∀ r,r<3->W.cell? ⟨g,k*3+r,none⟩=(encW p)[r]? := fun r hr=>by
   have h1:=Zbi Zeo ps k r p hp hr;rw [<-ht,List.getElem?_take,if_pos (by omega),Array.getElem?_toList] at h1;rw [<-h1];simp [World.cell?,hg]
  exact⟨g,cap,e0,Zab hg,hc 0 (by omega),hc 1 (by omega),hc 2 (by omega),cur,hg⟩
theorem ZiG {key:Int}{far:Bool}{q:RtD}{S:WayD->Prop}(hk:1<=key/\key<=9)(h:ThIn key far q)(hb:Zav key S (some ⟨key,Za1 far q.far q.cost,q.hops⟩))(hS:∀ w,S w->GoodT w/\w.to=key):OffR q/\wOf q=⟨key,Za1 far q.far q.cost,q.hops⟩:=by
 have h6:=hb.hop6 (fun w hw=>(hS w hw).1.hop6);refine⟨⟨h.thing,?_,h.cost,⟨h.far.1,h.far.2.1⟩,hb.2.2.2.1,h6,by rw [h.to];exact hk⟩,?_⟩
 ·have h1:=h.kind;cases far
  ·exact .inl ⟨by simpa using h1,h.far.2.2 rfl⟩
  ·exact .inr (by simpa using h1)
 ·have h1:=h.kind;unfold wOf Za1;rw [h.to];cases far
  ·have h3:q.kind=3:=by simpa using h1
   rw [h3];simp
  ·have h4:q.kind=4:=by simpa using h1
   rw [h4];simp
def ZmE (W:World)(lo:Nat)(ts:List QP):Prop:=(∀ q∈ts,Za0 W lo W.heap.size q)/\ts.Pairwise Zdn
theorem Zjt (v u:Value)(ps:List RP)(al:List Int)(hi:Nat)(border:Bool)(src:Int)(w:World)(hv:RecsIn w hi v ps)(ha:Zal w u al hi)(hhi:hi<=w.heap.size)(hn:tot ps<=1048576)(hal:al.length<=1048576)(hs:ZaN (fsts ps)=true):
  Calls Tryz.prog 60 #[v,u,.bool border,.int .i64 src] w fun e w'=>∃ x qs,e=.returned x/\ZbZ (fsts ps) al border src (ZaY qs)/\RtsOwn w' w.heap.size w'.heap.size x qs/\Below w.heap.size w w':=by
 obtain⟨i0,hi0,hz0,hs0,hb0⟩:=ZkB;have HI0:=hide hi0;have HZ0:=hide hz0;have HS0:=hide hs0;have HB0:=hide hb0;clear hi0 hz0 hs0 hb0;obtain⟨a1,c1,rfl⟩:=Zac hv.row;obtain⟨a2,c2,rfl⟩:=ha.shape;have LIT:=YAU (base:=w.heap.size) (e:=57) (size:=6) w #[] 0 (YA _) (by unfold maxLen;omega) (by simp);have B0:Below w.heap.size w (w.alloc (.cells #[] 57)):=(YAB _ _).alloc (YA _) _;obtain⟨w0,hw0⟩:∃ W,W=w.alloc (.cells #[] 57):=⟨_,rfl⟩;rw [<-hw0] at LIT B0;have HWI:=hide (Zef (.slice a1 ps.length c1) (.slice a2 al.length c2) ps al hi src w0 (hv.below B0 hhi) (Zau.later ha B0 hhi) (YAG hhi B0.size) hn hal);have HBY:=hide (fun W (hb:Below w.heap.size w W)=>Zgd (.slice a1 ps.length c1) (.slice a2 al.length c2) ps al hi border src W (hv.below hb hhi) (Zau.later ha hb hhi) (YAG hhi hb.size) hn hal);have HSK:=hide (fun W (hb:Below w.heap.size w W)=>ZcM (.slice a1 ps.length c1) ps W hn (ZbT.more ((hv.below hb hhi).at) (YAG hhi hb.size)));rw [hs] at HSK;have HTH:=hide (fun uw ub ws bs lo1 hi1 lo2 hi2 key far W (hb:Below w.heap.size w W) hw hh1 hnw hu hh2 hnb hgd hge=>Zjv (.slice a1 ps.length c1) uw ub ps ws bs hi lo1 hi1 lo2 hi2 key src far W (hv.below hb hhi) (YAG hhi hb.size) hn hw hh1 hnw hu hh2 hnb hs hgd hge);have HLIT:=hide LIT;have HSS:=hide hs;clear hv ha hs LIT
 go_enter Tryz.func60,Tryz.ntmps60
 go_wp2_with fail
 rw [<-hw0];clear hw0;refine HWI.out.mono ?_;rintro e w1 ⟨uw,ws,rfl,hbw,how,b1⟩;obtain⟨wsa,wsc,rfl⟩:=Zac how.row;have hb0s:=B0.size;have hb1:=b1.size;have B1:Below w.heap.size w w1:=B0.trans (b1.mono hb0s);have htw:=Zdq hbw (fun to d h=>ZaL h);have HL1:=hide (Zad HLIT.out b1 (YA _));have HW1:=hide how;have HBW:=hide hbw;clear how hbw HWI HLIT b1
 go_wp2_with fail
 refine (HBY.out _ B1).mono ?_;rintro e w2 ⟨ub,bs,rfl,hbb,hob,b2⟩;obtain⟨bsa,bsc,rfl⟩:=Zac hob.row;have hb2:=b2.size;have htb:=Zdq hbb (fun to d h=>ZaU h);have B2:Below w.heap.size w w2:=B1.trans (b2.mono B1.size);have HL2:=hide (Zad HL1.out b2 (YA _));have HW2:=hide (HW1.out.below b2 (YA _));have HB2:=hide hob;have HBB:=hide hbb;clear hob hbb HBY HL1 HW1 b2
 go_wp2_with fail
 refine (HSK.out _ B2).mono ?_;rintro e w3 ⟨rfl,b3⟩;have hb3:=b3.size;have B3:Below w.heap.size w w3:=B2.trans (b3.mono B2.size);have HL3:=hide (Zad HL2.out b3 (YA _));have HW3:=hide (HW2.out.below b3 (by omega));have HB3:=hide (HB2.out.below b3 (YA _));have hwl:=ZhN ws;have hbl:=ZhN bs;have hws42:ws.length<=42:=YAG hwl htw;have hbs42:bs.length<=42:=YAG hbl htb;have hb13:=B1.size;have HGD:=hide (show Zeh (Zam ws) from HBW.out.good (fun to d h=>ZaL h));have HGE:=hide (show Zeh (Zam bs) from HBB.out.good (fun to d h=>ZaU h));clear HL2 HW2 HB2 HSK b3;go_wp2
 go_loopw [12,9] (fun i o wr=>∃ (k:Nat) (x:Value) (qW:List QP),k<=ws.length/\i=.int .i64 (k:Int)/\o=x/\Hid (qW=Zba 1 src (ws.take k))/\qW.length<=0+k/\wr.ownsRow w.heap.size 57 6 x qW.length (flat encQ qW)/\TyK w3 wr/\Below w.heap.size w wr/\w3.heap.size<=wr.heap.size) (fun i _ _=>ws.length-(intOf i).toNat)
 case atStart=>exact ⟨0,_,_,by omega,rfl,rfl,hide (show ([]:List QP)=Zba 1 src (ws.take 0) by simp [Zba]),by simp,HL3.out,TyK.refl _,B3,YA _⟩
 case round=>
  obtain⟨k,x,qW,hk,rfl,rfl,HQ,hql,hown,hty,hnx,hsz⟩:=hrel;obtain⟨xa,xc,rfl⟩:=Zac hown;by_cases hlt:k<ws.length
  ·obtain ⟨p,hp⟩:∃ p,ws[k]? = some p:=⟨ws[k],YAA hlt⟩;have hwr:=hty.ways HW3.out;obtain⟨gw,cw,hve,hgw,c0,c1,c2,cs,hcs⟩:=Zhd hwr hp;cases hve;obtain⟨pa,pc,hpn⟩:=Zac (hwr.nears p (YAF hp)).1;rw [hpn] at c2;have hki:(0:Int)<=(k:Int):=by omega
   have hkj:(k:Int)<(ws.length:Int):=by omega
   have HP:=hide hp;have HPN:=hide hpn;by_cases ht:p.1.to=src
   ·have hd:(p.1.to != src)=false:=by simpa using ht
    have HN:=hide (show qW=Zba 1 src (ws.take (k+1)) from by rw [HQ.out,Zio HP.out ht]);have N1:=hide hown;have N2:=hide hty;have N3:=hide hnx;clear hp hpn hown hnx hty hwr ht HQ HP HPN hcs;go_wp2;go_roundw
    case rel=>exact ⟨k+1,_,qW,by omega,by go_num,rfl,HN,by omega,N1.out,N2.out,N3.out,hsz⟩
    case measure=>simp [intOf];omega
   ·have hd:(p.1.to != src)=true:=by simpa using ht
    have HN:=hide (show qW++[(Zca 1 (p.1,.slice pa p.1.hops.length pc))]=Zba 1 src (ws.take (k+1)) from by
     rw [ZgV HP.out ht,HQ.out, <-HPN.out])
    have BA:Below wr.heap.size wr (wr.alloc (.cells (encQ (Zca 1 (p.1,.slice pa p.1.hops.length pc))).toArray 57)):=(YAB _ _).alloc (YA _) _;have OW:=hide (hown.alloc (.cells (encQ (Zca 1 (p.1,.slice pa p.1.hops.length pc))).toArray 57));have HOB:=hide (fun j (hj:(Value.slice xa qW.length xc).ownBlock=some j)=>(hown.lt j hj).1);have HNE:=hide (show some gw≠(Value.slice xa qW.length xc).ownBlock from Zas hown hcs (by decide));have HTY:=hide hty;have HNX:=hide hnx;have HBA:=hide BA;have NEWS:=hide (Zak (w:=wr) (cs:=encQ (Zca 1 (p.1,.slice pa p.1.hops.length pc))) (t:=57));have HTG:=hide (fun W (hg:(wr.alloc (.cells (encQ (Zca 1 (p.1,.slice pa p.1.hops.length pc))).toArray 57)).grownBy W (Value.slice xa qW.length xc).ownBlock)=>TyK.grown OW.out hg);have hgw2:gw<(wr.alloc (.cells (encQ (Zca 1 (p.1,.slice pa p.1.hops.length pc))).toArray 57)).heap.size:=YAC hgw BA.size;have hwls:=hnx.size;clear hp hpn hown hnx hty hwr ht HQ HP HPN hcs BA;go_wp2
    go_region_held_law (fun W=>W.cell? ⟨gw,k*3,none⟩=some (.int .i64 p.1.to)/\W.cell? ⟨gw,k*3+1,none⟩=some (.int .i64 p.1.cost)/\W.cell? ⟨gw,k*3+2,none⟩=some (.slice pa p.1.hops.length pc)) (first | go_keep | (go_split_ands;refine⟨?_,?_,?_⟩ <;> (rw [hgrow.cell_far _ hgw2 HNE.out];assumption))) ((refine step_append_lies _ (by rfl) _ _ _ (by rfl) w.heap.size 57 i0 (.agg (rtC ZbM (.slice none 0 0))) 6 64 Tryz.underlying32 HI0.out HZ0.out HS0.out HB0.out rfl (by omega) (.slice xa qW.length xc) qW.length (flat encQ qW) (by rfl) OW.out ⟨wr.heap.size,0,none⟩ 1 1 (encQ (Zca 1 (p.1,.slice pa p.1.hops.length pc))) (by rfl) rfl NEWS.out (Zen _ _ _ _) (by omega) (by unfold maxLen;omega) (by omega) (by simp;omega) (wr.heap.size+1) (by simp) ?_;intro gn cn w6 hown' hgrow hat hlt6))
    rename_i hheld
    clear hheld;have hgr:=ZfS hgrow;have N1:=hide (show w6.ownsRow w.heap.size 57 6 (.slice (some ⟨gn,0,none⟩) (qW.length+1) cn) (qW++[(Zca 1 (p.1,.slice pa p.1.hops.length pc))]).length (flat encQ (qW++[(Zca 1 (p.1,.slice pa p.1.hops.length pc))])) by rw [ZaQ,YAM];simpa [flat] using hown');have N2:=hide (HTY.out.trans ((TyK.below HBA.out).trans (HTG.out w6 hgr)));have N3:=hide ((HNX.out.trans (HBA.out.mono hwls)).grown (show (wr.alloc (.cells (encQ (Zca 1 (p.1,.slice pa p.1.hops.length pc))).toArray 57)).grownBy w6 (Value.slice xa qW.length xc).ownBlock from hgr) (YAG hwls HBA.out.size) HOB.out);have hsz6:w3.heap.size<=w6.heap.size:=YAG hsz (YAG HBA.out.size (show (wr.alloc (.cells (encQ (Zca 1 (p.1,.slice pa p.1.hops.length pc))).toArray 57)).grownBy w6 (Value.slice xa qW.length xc).ownBlock from hgr).size);clear hown' hgrow hgr hat hlt6 OW HOB HNE HTY HNX HBA NEWS HTG hgw2 c0 c1 c2;go_wp2;go_roundw
    case rel=>exact ⟨k+1,_,qW++[(Zca 1 (p.1,.slice pa p.1.hops.length pc))],by omega,by go_num,rfl,HN,by simp;omega,N1.out,N2.out,N3.out,hsz6⟩
    case measure=>simp [intOf];omega
  ·have hkn:¬(k:Int)<(ws.length:Int):=by omega
   have hke:ws.take k=ws:=YAc (by omega);have HQE:=hide (show qW=Zba 1 src ws by rw [HQ.out,hke]);clear HQ hke;have HN1:=hide hown;have HT1:=hide hty;have HX1:=hide hnx;have hl1:qW.length<=ws.length:=by rw [HQE.out];exact ZgU 1 src ws
   have HQW:=HQE;clear hown hty hnx hql HQE
   rename World=>wa
   go_wp2
   go_loopw [13,9] (fun i o wr=>∃ (k:Nat) (x:Value) (qB:List QP),k<=bs.length/\i=.int .i64 (k:Int)/\o=x/\Hid (qB=qW++Zba 2 src (bs.take k))/\qB.length<=qW.length+k/\wr.ownsRow w.heap.size 57 6 x qB.length (flat encQ qB)/\TyK w3 wr/\Below w.heap.size w wr/\w3.heap.size<=wr.heap.size) (fun i _ _=>bs.length-(intOf i).toNat)
   case atStart=>exact ⟨0,_,_,by omega,rfl,rfl,hide (show qW=qW++Zba 2 src (bs.take 0) by simp [Zba]),by omega,HN1.out,HT1.out,HX1.out,hsz⟩
   case round=>
    obtain⟨k,x,qB,hk,rfl,rfl,HQ,hql,hown,hty,hnx,hsz⟩:=hrel;obtain⟨xa,xc,rfl⟩:=Zac hown;by_cases hlt:k<bs.length
    ·obtain ⟨p,hp⟩:∃ p,bs[k]? = some p:=⟨bs[k],YAA hlt⟩;have hwr:=hty.ways HB3.out;obtain⟨gw,cw,hve,hgw,c0,c1,c2,cs,hcs⟩:=Zhd hwr hp;cases hve;obtain⟨pa,pc,hpn⟩:=Zac (hwr.nears p (YAF hp)).1;rw [hpn] at c2;have hki:(0:Int)<=(k:Int):=by omega
     have hkj:(k:Int)<(bs.length:Int):=by omega
     have HP:=hide hp;have HPN:=hide hpn;by_cases ht:p.1.to=src
     ·have hd:(p.1.to != src)=false:=by simpa using ht
      have HN:=hide (show qB=qW++Zba 2 src (bs.take (k+1)) from by rw [HQ.out,Zio HP.out ht]);have N1:=hide hown;have N2:=hide hty;have N3:=hide hnx;clear hp hpn hown hnx hty hwr ht HQ HP HPN hcs;go_wp2;go_roundw
      case rel=>exact ⟨k+1,_,qB,by omega,by go_num,rfl,HN,by omega,N1.out,N2.out,N3.out,hsz⟩
      case measure=>simp [intOf];omega
     ·have hd:(p.1.to != src)=true:=by simpa using ht
      have HN:=hide (show qB++[(Zca 2 (p.1,.slice pa p.1.hops.length pc))]=qW++Zba 2 src (bs.take (k+1)) from by
       rw [ZgV HP.out ht,HQ.out, <-HPN.out,List.append_assoc])
      have BA:Below wr.heap.size wr (wr.alloc (.cells (encQ (Zca 2 (p.1,.slice pa p.1.hops.length pc))).toArray 57)):=(YAB _ _).alloc (YA _) _;have OW:=hide (hown.alloc (.cells (encQ (Zca 2 (p.1,.slice pa p.1.hops.length pc))).toArray 57));have HOB:=hide (fun j (hj:(Value.slice xa qB.length xc).ownBlock=some j)=>(hown.lt j hj).1);have HNE:=hide (show some gw≠(Value.slice xa qB.length xc).ownBlock from Zas hown hcs (by decide));have HTY:=hide hty;have HNX:=hide hnx;have HBA:=hide BA;have NEWS:=hide (Zak (w:=wr) (cs:=encQ (Zca 2 (p.1,.slice pa p.1.hops.length pc))) (t:=57));have HTG:=hide (fun W (hg:(wr.alloc (.cells (encQ (Zca 2 (p.1,.slice pa p.1.hops.length pc))).toArray 57)).grownBy W (Value.slice xa qB.length xc).ownBlock)=>TyK.grown OW.out hg);have hgw2:gw<(wr.alloc (.cells (encQ (Zca 2 (p.1,.slice pa p.1.hops.length pc))).toArray 57)).heap.size:=YAC hgw BA.size;have hwls:=hnx.size;clear hp hpn hown hnx hty hwr ht HQ HP HPN hcs BA;go_wp2
      go_region_held_law (fun W=>W.cell? ⟨gw,k*3,none⟩=some (.int .i64 p.1.to)/\W.cell? ⟨gw,k*3+1,none⟩=some (.int .i64 p.1.cost)/\W.cell? ⟨gw,k*3+2,none⟩=some (.slice pa p.1.hops.length pc)) (first | go_keep | (go_split_ands;refine⟨?_,?_,?_⟩ <;> (rw [hgrow.cell_far _ hgw2 HNE.out];assumption))) ((refine step_append_lies _ (by rfl) _ _ _ (by rfl) w.heap.size 57 i0 (.agg (rtC ZbM (.slice none 0 0))) 6 64 Tryz.underlying32 HI0.out HZ0.out HS0.out HB0.out rfl (by omega) (.slice xa qB.length xc) qB.length (flat encQ qB) (by rfl) OW.out ⟨wr.heap.size,0,none⟩ 1 1 (encQ (Zca 2 (p.1,.slice pa p.1.hops.length pc))) (by rfl) rfl NEWS.out (Zen _ _ _ _) (by omega) (by unfold maxLen;omega) (by omega) (by simp;omega) (wr.heap.size+1) (by simp) ?_;intro gn cn w6 hown' hgrow hat hlt6))
      rename_i hheld
      clear hheld;have hgr:=ZfS hgrow;have N1:=hide (show w6.ownsRow w.heap.size 57 6 (.slice (some ⟨gn,0,none⟩) (qB.length+1) cn) (qB++[(Zca 2 (p.1,.slice pa p.1.hops.length pc))]).length (flat encQ (qB++[(Zca 2 (p.1,.slice pa p.1.hops.length pc))])) by rw [ZaQ,YAM];simpa [flat] using hown');have N2:=hide (HTY.out.trans ((TyK.below HBA.out).trans (HTG.out w6 hgr)));have N3:=hide ((HNX.out.trans (HBA.out.mono hwls)).grown (show (wr.alloc (.cells (encQ (Zca 2 (p.1,.slice pa p.1.hops.length pc))).toArray 57)).grownBy w6 (Value.slice xa qB.length xc).ownBlock from hgr) (YAG hwls HBA.out.size) HOB.out);have hsz6:w3.heap.size<=w6.heap.size:=YAG hsz (YAG HBA.out.size (show (wr.alloc (.cells (encQ (Zca 2 (p.1,.slice pa p.1.hops.length pc))).toArray 57)).grownBy w6 (Value.slice xa qB.length xc).ownBlock from hgr).size);clear hown' hgrow hgr hat hlt6 OW HOB HNE HTY HNX HBA NEWS HTG hgw2 c0 c1 c2;go_wp2;go_roundw
      case rel=>exact ⟨k+1,_,qB++[(Zca 2 (p.1,.slice pa p.1.hops.length pc))],by omega,by go_num,rfl,HN,by simp;omega,N1.out,N2.out,N3.out,hsz6⟩
      case measure=>simp [intOf];omega
    ·have hkn:¬(k:Int)<(bs.length:Int):=by omega
     have hke:bs.take k=bs:=YAc (by omega);have HQE:=hide (show qB=qW++Zba 2 src bs by rw [HQ.out,hke]);clear HQ hke;have HN1:=hide hown;have HT1:=hide hty;have HX1:=hide hnx;have hl2:qB.length<=ws.length+bs.length:=by rw [HQE.out,YAM];have:=ZgU 2 src bs;omega
     have hqb84:qB.length<=84:=by omega
     have HQB:=HQE;clear hown hty hnx hql HQE
     rename World=>wb
     go_wp2
     go_loopw [14,9] (fun i o wr=>∃ (t:Nat) (x:Value) (ts:List QP),1<=t/\t<=10/\i=.int .i64 (t:Int)/\o=x/\wr.ownsRow w.heap.size 57 6 x (qB++ts).length (flat encQ (qB++ts))/\Hid (ZaA (fun to d=>to<(t:Int)/\Zdl (fsts ps) (Zam ws) (Zam bs) src to d) ((ZaY ts).map wOf))/\OffL ts/\ZmE wr w3.heap.size ts/\TyK w3 wr/\Below w.heap.size w wr/\w3.heap.size<=wr.heap.size) (fun i _ _=>11-(intOf i).toNat)
     case atStart=>exact ⟨1,_,[],by omega,by omega,rfl,rfl,by rw [List.append_nil];exact HN1.out,hide (Zc9 (fun to d ⟨h1,h2⟩=>by have h3:=Zb5 HSS.out HGD.out HGE.out h2;have:=h3.1.node;rw [h3.2] at this;omega)),fun b hb=>by simp at hb,⟨fun q hq=>by simp at hq,by simp⟩,HT1.out,HX1.out,hsz⟩
     case round=>
      obtain⟨t,x,ts,ht1,ht10,rfl,rfl,hown,HB,hol,hhop,hty,hnx,hsz⟩:=hrel;clear HN1 HT1 HX1;rw [YAM] at hown;obtain⟨xa,xc,rfl⟩:=Zac hown;have hlen9:ts.length<=9:=by
       have h:=Zg8 HB.out.1 (fun d hd=>by
        obtain⟨y,hy,rfl⟩:=YAV.1 hd;obtain⟨b,hb,rfl⟩:=YAV.1 hy;exact (hol b hb).node)
       simpa [ZaY] using h
      by_cases ht:t<=9
      ·have ht9:(t:Int)<=9:=by omega
       have hw:=hty.ways HW3.out;have hbw2:=hty.ways HB3.out;have HC1:=hide (HTH.out (.slice wsa ws.length wsc) (.slice bsa bs.length bsc) ws bs w0.heap.size w1.heap.size w1.heap.size w2.heap.size (t:Int) false wr hnx hw (by omega) (by omega) hbw2 (by omega) (by omega) HGD.out HGE.out);have HC2:=hide (fun W (hb:Below wr.heap.size wr W)=>HTH.out (.slice wsa ws.length wsc) (.slice bsa bs.length bsc) ws bs w0.heap.size w1.heap.size w1.heap.size w2.heap.size (t:Int) true W (hnx.trans (hb.mono hnx.size)) (hw.below hb (by omega)) (by have:=hb.size;omega) (by omega) (hbw2.below hb (by omega)) (by have:=hb.size;omega) (by omega) HGD.out HGE.out);have HOWN:=hide hown;have HOL:=hide hol;have HHOP:=hide hhop;have HTY:=hide hty;have HNX:=hide hnx;have hwr:=hnx.size;clear hown hol hhop hty hnx hw hbw2
       go_wp2_with fail
       refine HC1.out.mono ?_;rintro e w4 ⟨q,u,fv,rfl,hth,hq6,hu,b4⟩;obtain⟨ua,uc,rfl⟩:=Zac hu;obtain⟨F1,hF1,hst⟩:=hth;subst hF1;have hb4:=b4.size;unfold rtC;cases F1
       case true=>
        have hTN:=Zk3 HSS.out HGD.out HGE.out (by simpa [fsts] using hst);have HTN:=hide hTN;have HBQ:=hide (b4.alloc hb4 (.cells #[.bool q.thing,.int .i64 q.to,.int .i64 q.kind,.int .i64 q.cost,.int .i64 q.far,.slice ua q.hops.length uc] 57));have BXQ:=hide (show BoxR (w4.alloc (.cells #[.bool q.thing,.int .i64 q.to,.int .i64 q.kind,.int .i64 q.cost,.int .i64 q.far,.slice ua q.hops.length uc] 57)) w4.heap.size wr.heap.size q (.slice ua q.hops.length uc) from ⟨YAE _ _,hu.alloc _,hq6⟩);have HSQ:=hide (show (w4.alloc (.cells #[.bool q.thing,.int .i64 q.to,.int .i64 q.kind,.int .i64 q.cost,.int .i64 q.far,.slice ua q.hops.length uc] 57)).heap.size=w4.heap.size+1 by simp);clear hTN hst hu b4 HC1 HC2;have LITI:=YAU (base:=wr.heap.size) (e:=3) (size:=1) (w4.alloc (.cells #[.bool q.thing,.int .i64 q.to,.int .i64 q.kind,.int .i64 q.cost,.int .i64 q.far,.slice ua q.hops.length uc] 57)) #[] 0 HBQ.out.size (by decide) rfl;rw [HSQ.out] at LITI;have OWL:=hide LITI;have OWU:=hide (BXQ.out.own.alloc (.cells #[] 3));have LB:=(YAB (w4.alloc (.cells #[.bool q.thing,.int .i64 q.to,.int .i64 q.kind,.int .i64 q.cost,.int .i64 q.far,.slice ua q.hops.length uc] 57)).heap.size (w4.alloc (.cells #[.bool q.thing,.int .i64 q.to,.int .i64 q.kind,.int .i64 q.cost,.int .i64 q.far,.slice ua q.hops.length uc] 57))).alloc (YA _) (.cells #[] 3);have lbx:=(LB.block _ (Zab BXQ.out.box)).trans BXQ.out.box;unfold rtC at lbx;have lb5:=Zaa lbx 5;simp only [YAN,YAK,YAL] at lb5;have hq6b:=BXQ.out.len;have HLB:=hide LB;have HLX:=hide lbx;have hzl:w4.heap.size<w4.heap.size+1:=by have h1:=Zab BXQ.out.box;have h2:=HSQ.out;omega
        clear LITI LB lbx
        go_wp2_with (first
         | (at_builtin;refine Zbw ZcS (by omega) Zcj (by omega) _ rfl _ _ 37 rfl wr.heap.size 3 Tryz.underlying37 (.int .i64 0) rfl Tryz.info3 _ [] rfl OWL.out wr.heap.size _ q.hops rfl OWU.out (by simp only [List.length_nil];omega) (YAG HBQ.out.size HLB.out.size) ?_))
        intro vh wh hownh hgrowh
        (try simp only [List.nil_append] at hownh)
        obtain⟨ha,hc,rfl⟩:=Zac hownh;have zb:=(hgrowh.block _ (Zab HLX.out) (by first | (simp [Value.ownBlock];done) | (simp [Value.ownBlock];omega))).trans HLX.out;have zf:=Zae zb;have z0:=Zaa zb 0;have z1:=Zaa zb 1;have z2:=Zaa zb 2;have z3:=Zaa zb 3;have z4:=Zaa zb 4;have z5:=Zaa zb 5;simp only [YAN,YAK,YAL] at z0 z1 z2 z3 z4 z5;have BH:Below wr.heap.size wr wh:=(HBQ.out.trans (HLB.out.mono HBQ.out.size)).grown hgrowh (by have h1:=HBQ.out.size;have h2:=HLB.out.size;omega) (fun j hj=>(OWL.out.lt j hj).1);have bxh:BoxR wh (w4.heap.size) wr.heap.size q (.slice ua q.hops.length uc):=⟨zb,Zai OWU.out (fun j hj=>hgrowh.block j (OWU.out.lt j hj).2 (by have h1:=(BXQ.out.own.lt j hj).2;rw [HSQ.out] at h1;simp [Value.ownBlock];omega)),hq6b⟩;have bxn:=bxh.hop (l:=q.hops) hownh hq6b;have hzw:wr.heap.size<=w4.heap.size:=by omega
        have BN:Below wr.heap.size wr (wh.setCell ⟨w4.heap.size,5,none⟩ (.slice ha q.hops.length hc)):=BH.trans (Zap zb hzw);have hsn:(wh.setCell ⟨w4.heap.size,5,none⟩ (.slice ha q.hops.length hc)).heap.size=wh.heap.size:=by simp
        have BN2:=hide (BN.alloc BN.size (.cells (encQ ((q,.slice ha q.hops.length hc):QP)).toArray 57));have OW:=hide (show ((wh.setCell ⟨w4.heap.size,5,none⟩ (.slice ha q.hops.length hc)).alloc (.cells (encQ ((q,.slice ha q.hops.length hc):QP)).toArray 57)).ownsRow w.heap.size 57 6 (.slice xa (qB.length+ts.length) xc) (qB++ts).length (flat encQ (qB++ts)) by rw [YAM];exact (Zad HOWN.out BN (YA _)).alloc _);have HXN:=hide (bxn.own.alloc (.cells (encQ ((q,.slice ha q.hops.length hc):QP)).toArray 57));have HSN:=hide hsn;have NEWS:=hide (Zak (w:=(wh.setCell ⟨w4.heap.size,5,none⟩ (.slice ha q.hops.length hc))) (cs:=encQ ((q,.slice ha q.hops.length hc):QP)) (t:=57));rw [hsn] at NEWS;have HOB:=hide (fun j (hj:(Value.slice xa (qB.length+ts.length) xc).ownBlock=some j)=>(HOWN.out.lt j hj).1);have hww:=BN.size;clear bxn BN hsn bxh zb hgrowh hownh OWL OWU HLB HLX BXQ HBQ HSQ BH lb5
        go_wp2_with (first
         | (at_builtin;refine ZaG ZdL (by omega) (by omega) _ rfl _ _ 32 rfl w.heap.size 57 Tryz.underlying32 (.agg (rtC ZbM (.slice none 0 0))) rfl Tryz.infoRoute _ (qB++ts) ((q,.slice ha q.hops.length hc):QP) (Zen _ _ _ _) rfl OW.out ⟨wh.heap.size,0,none⟩ 1 rfl NEWS.out (by rw [YAM];omega) (YAG hwr BN2.out.size) ?_))
        intro v' w6 hown' hgrow hat;have TY6:=(TyK.below BN2.out).trans (TyK.grown OW.out hgrow);have hs6:=YAG BN2.out.size hgrow.size;have hOF:=ZiG (by omega) HTN.out.1 HTN.out.2 (fun d hd=>Zb5 HSS.out HGD.out HGE.out hd);have N1:=hide (show w6.ownsRow w.heap.size 57 6 v' (qB++(ts++[((q,.slice ha q.hops.length hc):QP)])).length (flat encQ (qB++(ts++[((q,.slice ha q.hops.length hc):QP)]))) by rw [<-List.append_assoc];simpa using hown');have N2:=hide (show ZaA (fun to d=>to<((t+1:Nat):Int)/\Zdl (fsts ps) (Zam ws) (Zam bs) src to d) ((ZaY (ts++[((q,.slice ha q.hops.length hc):QP)])).map wOf) by
         rw [show ((t+1:Nat):Int)=(t:Int)+1 by omega,ZaO,YAW];refine HB.out.push (S:=Zdl (fsts ps) (Zam ws) (Zam bs) src) (t:=(t:Int)) (b:=wOf q) ?_;rw [hOF.2];exact HTN.out.2)
        have N3:=hide (Zip (p:=((q,.slice ha q.hops.length hc):QP)) HOL.out hOF.1);have N4:=hide (show ZmE w6 w3.heap.size (ts++[((q,.slice ha q.hops.length hc):QP)]) from ⟨fun r hr=>by
         rcases YAH.1 hr with h1 | h1
         ·exact (TY6.hop (HHOP.out.1 r h1)).wide (YA _) hs6
         ·have:r=((q,.slice ha q.hops.length hc):QP):=by simpa using h1
          subst this;have h2:=ZcV HXN.out (by decide) (TyK.grown OW.out hgrow);exact⟨Zaf h2 hsz,fun j hj=>(h2.lt j hj).2⟩,by
         rw [YAP];refine⟨HHOP.out.2,by simp,fun a ha' b hb' j hj e=>?_⟩;have:b=((q,.slice ha q.hops.length hc):QP):=by simpa using hb'
         subst this;have h1:=(HHOP.out.1 a ha').2 j hj;have h2:=(HXN.out.lt j e).1;omega⟩)
        have N5:=hide (HTY.out.trans TY6);have N6:=hide ((HNX.out.trans (BN2.out.mono hwr)).grown hgrow (YAG hwr BN2.out.size) HOB.out);have hsz6:w3.heap.size<=w6.heap.size:=by omega
        obtain⟨va,vc,rfl⟩:=Zac hown';clear hown' hgrow hat OW BN2 HXN NEWS HOB TY6 hOF HTN HOWN HHOP HOL HB HTY HNX HSN;go_wp2;go_roundw
        case rel=>exact ⟨t+1,_,ts++[((q,.slice ha q.hops.length hc):QP)],by omega,by omega,by go_num,rfl,N1.out,N2,N3.out,N4.out,N5.out,N6.out,hsz6⟩
        case measure=>simp [intOf];omega
       case false=>
        have HN0:=hide (show ThSt (t:Int) false false q (thK (fsts ps) (Zam ws) (Zam bs) src (t:Int) false (fsts ps).length) by simpa [fsts] using hst);have BA4:Below wr.heap.size wr (w4.alloc (.cells #[.bool q.thing,.int .i64 q.to,.int .i64 q.kind,.int .i64 q.cost,.int .i64 q.far,.slice ua q.hops.length uc] 57)):=b4.alloc hb4 _;have HBX4:=hide (YAE w4 (.cells #[.bool q.thing,.int .i64 q.to,.int .i64 q.kind,.int .i64 q.cost,.int .i64 q.far,.slice ua q.hops.length uc] 57));have HCC:=hide (HC2.out _ BA4);have HBA4:=hide BA4;have h4s:(w4.alloc (.cells #[.bool q.thing,.int .i64 q.to,.int .i64 q.kind,.int .i64 q.cost,.int .i64 q.far,.slice ua q.hops.length uc] 57)).heap.size=w4.heap.size+1:=by simp
        have H4S:=hide h4s;clear hst hu b4 HC1 HC2 BA4 h4s
        go_wp2_with fail
        refine HCC.out.mono ?_;rintro e w5 ⟨q2,u2,fv2,rfl,hth2,hq62,hu2,b5⟩;obtain⟨ua2,uc2,rfl⟩:=Zac hu2;obtain⟨F2,hF2,hst2⟩:=hth2;subst hF2;unfold rtC;have hb5:=b5.size;have hx5:=(b5.block _ (Zab HBX4.out)).trans HBX4.out;have x0:=Zaa hx5 0;have x1:=Zaa hx5 1;have x2:=Zaa hx5 2;have x3:=Zaa hx5 3;have x4:=Zaa hx5 4;have x5:=Zaa hx5 5;have xf:=Zae hx5;simp only [YAN,YAK,YAL] at x0 x1 x2 x3 x4 x5;have h4s:=H4S.out;have RE:=Zn5 (q:=q) (y:=.slice ua q.hops.length uc) wr.heap.size q2 (.slice ua2 q2.hops.length uc2) hx5 (Zaf hu2 (by omega));have B5:Below wr.heap.size wr w5:=HBA4.out.trans (b5.mono HBA4.out.size);have HBQ:=hide (B5.trans (RE.2.2.mono hb4));have BXQ:=hide (show BoxR (Ze1 w5 w4.heap.size q2 (.slice ua2 q2.hops.length uc2)) w4.heap.size wr.heap.size q2 (.slice ua2 q2.hops.length uc2) from ⟨RE.1,RE.2.1,hq62⟩);have HSQ:=hide (show (Ze1 w5 w4.heap.size q2 (.slice ua2 q2.hops.length uc2)).heap.size=w5.heap.size by simp [Ze1]);have hTF:=Zms (HN0.out) (by simpa [fsts] using hst2);clear RE B5 hu2 b5 hx5 HBX4 HBA4 HCC H4S h4s hst2 HN0;cases F2
        case true=>
         have hTF2:=hTF;unfold ThSt at hTF2;rw [if_pos rfl] at hTF2;have HTN:=hide hTF2;clear hTF hTF2;have LITI:=YAU (base:=wr.heap.size) (e:=3) (size:=1) (Ze1 w5 w4.heap.size q2 (.slice ua2 q2.hops.length uc2)) #[] 0 HBQ.out.size (by decide) rfl;rw [HSQ.out] at LITI;have OWL:=hide LITI;have OWU:=hide (BXQ.out.own.alloc (.cells #[] 3));have LB:=(YAB (Ze1 w5 w4.heap.size q2 (.slice ua2 q2.hops.length uc2)).heap.size (Ze1 w5 w4.heap.size q2 (.slice ua2 q2.hops.length uc2))).alloc (YA _) (.cells #[] 3);have lbx:=(LB.block _ (Zab BXQ.out.box)).trans BXQ.out.box;unfold rtC at lbx;have lb5:=Zaa lbx 5;unfold Ze1 at lb5;simp only [YAN,YAK,YAL] at lb5;have hq6b:=BXQ.out.len;have HLB:=hide LB;have HLX:=hide lbx;have hzl:w4.heap.size<w5.heap.size:=by have h1:=Zab BXQ.out.box;have h2:=HSQ.out;omega
         clear LITI LB lbx
         go_wp2_with (first
          | (at_builtin;refine Zbw ZcS (by omega) Zcj (by omega) _ rfl _ _ 37 rfl wr.heap.size 3 Tryz.underlying37 (.int .i64 0) rfl Tryz.info3 _ [] rfl OWL.out wr.heap.size _ q2.hops rfl OWU.out (by simp only [List.length_nil];omega) (YAG HBQ.out.size HLB.out.size) ?_))
         intro vh wh hownh hgrowh
         (try simp only [List.nil_append] at hownh)
         obtain⟨ha,hc,rfl⟩:=Zac hownh;have zb:=(hgrowh.block _ (Zab HLX.out) (by first | (simp [Value.ownBlock];done) | (simp [Value.ownBlock];omega))).trans HLX.out;have zf:=Zae zb;have z0:=Zaa zb 0;have z1:=Zaa zb 1;have z2:=Zaa zb 2;have z3:=Zaa zb 3;have z4:=Zaa zb 4;have z5:=Zaa zb 5;simp only [YAN,YAK,YAL] at z0 z1 z2 z3 z4 z5;have BH:Below wr.heap.size wr wh:=(HBQ.out.trans (HLB.out.mono HBQ.out.size)).grown hgrowh (by have h1:=HBQ.out.size;have h2:=HLB.out.size;omega) (fun j hj=>(OWL.out.lt j hj).1);have bxh:BoxR wh (w4.heap.size) wr.heap.size q2 (.slice ua2 q2.hops.length uc2):=⟨zb,Zai OWU.out (fun j hj=>hgrowh.block j (OWU.out.lt j hj).2 (by have h1:=(BXQ.out.own.lt j hj).2;rw [HSQ.out] at h1;simp [Value.ownBlock];omega)),hq6b⟩;have bxn:=bxh.hop (l:=q2.hops) hownh hq6b;have hzw:wr.heap.size<=w4.heap.size:=by omega
         have BN:Below wr.heap.size wr (wh.setCell ⟨w4.heap.size,5,none⟩ (.slice ha q2.hops.length hc)):=BH.trans (Zap zb hzw);have hsn:(wh.setCell ⟨w4.heap.size,5,none⟩ (.slice ha q2.hops.length hc)).heap.size=wh.heap.size:=by simp
         have BN2:=hide (BN.alloc BN.size (.cells (encQ ((q2,.slice ha q2.hops.length hc):QP)).toArray 57));have OW:=hide (show ((wh.setCell ⟨w4.heap.size,5,none⟩ (.slice ha q2.hops.length hc)).alloc (.cells (encQ ((q2,.slice ha q2.hops.length hc):QP)).toArray 57)).ownsRow w.heap.size 57 6 (.slice xa (qB.length+ts.length) xc) (qB++ts).length (flat encQ (qB++ts)) by rw [YAM];exact (Zad HOWN.out BN (YA _)).alloc _);have HXN:=hide (bxn.own.alloc (.cells (encQ ((q2,.slice ha q2.hops.length hc):QP)).toArray 57));have HSN:=hide hsn;have NEWS:=hide (Zak (w:=(wh.setCell ⟨w4.heap.size,5,none⟩ (.slice ha q2.hops.length hc))) (cs:=encQ ((q2,.slice ha q2.hops.length hc):QP)) (t:=57));rw [hsn] at NEWS;have HOB:=hide (fun j (hj:(Value.slice xa (qB.length+ts.length) xc).ownBlock=some j)=>(HOWN.out.lt j hj).1);have hww:=BN.size;clear bxn BN hsn bxh zb hgrowh hownh OWL OWU HLB HLX BXQ HBQ HSQ BH lb5
         go_wp2_with (first
          | (at_builtin;refine ZaG ZdL (by omega) (by omega) _ rfl _ _ 32 rfl w.heap.size 57 Tryz.underlying32 (.agg (rtC ZbM (.slice none 0 0))) rfl Tryz.infoRoute _ (qB++ts) ((q2,.slice ha q2.hops.length hc):QP) (Zen _ _ _ _) rfl OW.out ⟨wh.heap.size,0,none⟩ 1 rfl NEWS.out (by rw [YAM];omega) (YAG hwr BN2.out.size) ?_))
         intro v' w6 hown' hgrow hat;have TY6:=(TyK.below BN2.out).trans (TyK.grown OW.out hgrow);have hs6:=YAG BN2.out.size hgrow.size;have hOF:=ZiG (by omega) HTN.out.1 HTN.out.2 (fun d hd=>Zb5 HSS.out HGD.out HGE.out hd);have N1:=hide (show w6.ownsRow w.heap.size 57 6 v' (qB++(ts++[((q2,.slice ha q2.hops.length hc):QP)])).length (flat encQ (qB++(ts++[((q2,.slice ha q2.hops.length hc):QP)]))) by rw [<-List.append_assoc];simpa using hown');have N2:=hide (show ZaA (fun to d=>to<((t+1:Nat):Int)/\Zdl (fsts ps) (Zam ws) (Zam bs) src to d) ((ZaY (ts++[((q2,.slice ha q2.hops.length hc):QP)])).map wOf) by
          rw [show ((t+1:Nat):Int)=(t:Int)+1 by omega,ZaO,YAW];refine HB.out.push (S:=Zdl (fsts ps) (Zam ws) (Zam bs) src) (t:=(t:Int)) (b:=wOf q2) ?_;rw [hOF.2];exact HTN.out.2)
         have N3:=hide (Zip (p:=((q2,.slice ha q2.hops.length hc):QP)) HOL.out hOF.1);have N4:=hide (show ZmE w6 w3.heap.size (ts++[((q2,.slice ha q2.hops.length hc):QP)]) from ⟨fun r hr=>by
          rcases YAH.1 hr with h1 | h1
          ·exact (TY6.hop (HHOP.out.1 r h1)).wide (YA _) hs6
          ·have:r=((q2,.slice ha q2.hops.length hc):QP):=by simpa using h1
           subst this;have h2:=ZcV HXN.out (by decide) (TyK.grown OW.out hgrow);exact⟨Zaf h2 hsz,fun j hj=>(h2.lt j hj).2⟩,by
          rw [YAP];refine⟨HHOP.out.2,by simp,fun a ha' b hb' j hj e=>?_⟩;have:b=((q2,.slice ha q2.hops.length hc):QP):=by simpa using hb'
          subst this;have h1:=(HHOP.out.1 a ha').2 j hj;have h2:=(HXN.out.lt j e).1;omega⟩)
         have N5:=hide (HTY.out.trans TY6);have N6:=hide ((HNX.out.trans (BN2.out.mono hwr)).grown hgrow (YAG hwr BN2.out.size) HOB.out);have hsz6:w3.heap.size<=w6.heap.size:=by omega
         obtain⟨va,vc,rfl⟩:=Zac hown';clear hown' hgrow hat OW BN2 HXN NEWS HOB TY6 hOF HTN HOWN HHOP HOL HB HTY HNX HSN;go_wp2;go_roundw
         case rel=>exact ⟨t+1,_,ts++[((q2,.slice ha q2.hops.length hc):QP)],by omega,by omega,by go_num,rfl,N1.out,N2,N3.out,N4.out,N5.out,N6.out,hsz6⟩
         case measure=>simp [intOf];omega
        case false=>
         have hTF2:=hTF;unfold ThSt at hTF2;rw [if_neg (by simp)] at hTF2;have N2:=hide (show ZaA (fun to d=>to<((t+1:Nat):Int)/\Zdl (fsts ps) (Zam ws) (Zam bs) src to d) ((ZaY ts).map wOf) by
          rw [show ((t+1:Nat):Int)=(t:Int)+1 by omega];exact HB.out.skip (S:=Zdl (fsts ps) (Zam ws) (Zam bs) src) (t:=(t:Int)) hTF2.2)
         have N1:=hide (show (Ze1 w5 w4.heap.size q2 (.slice ua2 q2.hops.length uc2)).ownsRow w.heap.size 57 6 (.slice xa (qB.length+ts.length) xc) (qB++ts).length (flat encQ (qB++ts)) by rw [YAM];exact Zad HOWN.out HBQ.out (YA _));have N4:=hide (show ZmE (Ze1 w5 w4.heap.size q2 (.slice ua2 q2.hops.length uc2)) w3.heap.size ts from ⟨fun r hr=>((TyK.below HBQ.out).hop (HHOP.out.1 r hr)).wide (YA _) HBQ.out.size,HHOP.out.2⟩);have N5:=hide (HTY.out.trans (TyK.below HBQ.out));have N6:=hide (HNX.out.trans (HBQ.out.mono hwr));have hsz6:=YAG hsz HBQ.out.size;clear hTF hTF2 HOWN HHOP HTY HNX HBQ BXQ HSQ HB;go_wp2;go_roundw
         case rel=>exact ⟨t+1,_,ts,by omega,by omega,by go_num,rfl,N1.out,N2,HOL.out,N4.out,N5.out,N6.out,hsz6⟩
         case measure=>simp [intOf];omega
      ·have ht9:¬(t:Int)<=9:=by omega
       have HE:=hide (show ZaA (Zdl (fsts ps) (Zam ws) (Zam bs) src) ((ZaY ts).map wOf) from HB.out.congr (fun to d=>⟨fun h=>h.2,fun h=>⟨by have h3:=Zb5 HSS.out HGD.out HGE.out h;have:=h3.1.node;rw [h3.2] at this;omega,h⟩⟩));have hw:=hty.ways HW3.out;have hbw2:=hty.ways HB3.out;have hqq:qB++ts=Zba 1 src ws++Zba 2 src bs++ts:=by rw [HQB.out,HQW.out]
       have hfin:RtsOwn wr w.heap.size wr.heap.size (.slice xa (qB.length+ts.length) xc) (qB++ts):=⟨by rw [YAM];exact hown,fun k hk=>(hown.lt k hk).2,fun p hp=>by
        rw [hqq] at hp;rcases YAH.1 hp with h0 | h0
        ·rcases YAH.1 h0 with h1 | h1
         ·exact (Zcn hw 1 src p h1).wide (by omega) (by omega)
         ·exact (Zcn hbw2 2 src p h1).wide (by omega) (by omega)
        ·exact (hhop.1 p h0).wide (by omega) (YA _),by
        rw [hqq,YAP,YAP];refine⟨⟨Zff hw 1 src,Zff hbw2 2 src,fun a ha b hb k hk e=>?_⟩,hhop.2,fun a ha b hb k hk e=>?_⟩
        ·have h1:=(Zcn hw 1 src a ha).2 k hk;have h2:=((Zcn hbw2 2 src b hb).1.lt k e).1;omega
        ·have h2:=((hhop.1 b hb).1.lt k e).1;rcases YAH.1 ha with h0 | h0
         ·have h1:=(Zcn hw 1 src a h0).2 k hk;omega
         ·have h1:=(Zcn hbw2 2 src a h0).2 k hk;omega⟩
       have HRO:=hide hfin;have HIR:=hide (show ZbZ (fsts ps) al border src (ZaY (qB++ts)) from ⟨Zam ws,Zam bs,(ZaY ts).map wOf,HBW.out,HBB.out,HE.out,by rw [hqq,ZaO,ZaO,ZgT,ZgT,ZnC hol]⟩);have HBF:=hide hnx;clear hfin hown hnx hty hw hbw2 hol hhop hqq HB HE;go_wp2;go_ret
       first
        | exact ⟨_,_,rfl,HIR.out,HRO.out,HBF.out⟩
        | exact ⟨_,rfl,_,HIR.out,HRO.out,HBF.out⟩
theorem Zmn (v1 v2 y z:Value)(N m:Nat)(ls:List Lk)(ts:List Th)(bs zs:List Bool)(w:World)(hok:ZaZ ⟨(N:Int),ls,ts⟩=true)(hN:1<=N)(hN6:N<=6)(hls:ls.length<=12)(hts:ts.length<=4)
  (htho:∀ t∈ts,1<=t.o/\t.o<=(N:Int)) (h1:ZaX w v1 ls w.heap.size) (h2:Zbq w v2 ts w.heap.size) (h3:Zcp w y bs w.heap.size) (h4:Zcp w z zs w.heap.size) (hbs:bs.length=ls.length) (hzs:zs.length=N) (hm:m<N) (hup:zs[m]? = some true):
  Calls Tryz.prog 43 #[.agg #[.int .i64 (N:Int),v1,v2],y,z,.int .i64 ((m:Int)+1)] w fun e w'=>∃ x qs,e=.returned x/\Hid (ZbZ (Zet ls ts bs zs N) (ZaB ls ((m:Int)+1)) (Zfm ls ((m:Int)+1)) ((m:Int)+1) (ZaY qs))/\RtsOwn w' w.heap.size w'.heap.size x qs/\Below w.heap.size w w':=by
 obtain⟨a1,c1,rfl⟩:=h1.shape;obtain⟨a2,c2,rfl⟩:=h2.shape;obtain⟨a3,c3,rfl⟩:=h3.shape;obtain⟨a4,c4,rfl⟩:=h4.shape;obtain⟨ug,uo,uc0,huv,hug,ucell⟩:=h4.cell m true hup;obtain⟨rfl,rfl⟩:a4=some ⟨ug,uo,none⟩/\c4=uc0:=by cases huv;exact⟨rfl,rfl⟩
 clear huv;have hw0:=YAE w (.cells #[.int .i64 (N:Int),.slice a1 ls.length c1,.slice a2 ts.length c2] 81);have bw:=(YAB w.heap.size w).alloc (YA _) (.cells #[.int .i64 (N:Int),.slice a1 ls.length c1,.slice a2 ts.length c2] 81);obtain⟨W1,hW1⟩:∃ W1,W1=w.alloc (.cells #[.int .i64 (N:Int),.slice a1 ls.length c1,.slice a2 ts.length c2] 81):=⟨_,rfl⟩;rw [<-hW1] at hw0 bw;have HW1:=hide hW1;clear hW1;have HST:=hide (Zd4 (bs:=bs) (zs:=zs) hok);have HID:=hide (ZkS (.slice a1 ls.length c1) (.slice a2 ts.length c2) (.slice a3 bs.length c3) (.slice (some ⟨ug,uo,none⟩) zs.length c4) N ls ts bs zs W1 hok hN hN6 hls hts htho (Zau.then h1 bw) (Zau.then h2 bw) (Zau.then h3 bw) (Zau.then h4 bw) hbs hzs);have HAL:=hide (show (ZaB ls ((m:Int)+1)).length<=1048576 from YAG (ZcQ ls _) (by omega));have HL1:=hide (Zau.then h1 bw);have hz:=Zab hw0;have hwg:=bw.size;have HW0:=hide hw0;have BW:=hide bw;have UC:=hide ucell;have hmN:(m:Int)<(N:Int):=by omega
 have hml:(m:Int)<(zs.length:Int):=by omega
 have hinb:inB ((m:Int)+1) 1 (N:Int)=true:=by simp [inB];omega
 have HIN:=hide (fun W=>Zbs ((m:Int)+1) 1 (N:Int) W);rw [hinb] at HIN;clear h1 h2 h3 h4 bw hw0 ucell hup htho hok hinb hbs hzs
 go_enter Tryz.func43,Tryz.ntmps43
 go_wp2_with fail
 rw [<-HW1.out];refine HID.out.mono ?_;rintro e w2 ⟨o,qs,rfl,hf,ht,hown,b2⟩;obtain⟨oa,oc,rfl⟩:=Zac hown.row;rw [<-hf] at HST;have HF:=hide hf;have HO2:=hide hown;have hs2:=b2.size;have G2:=hide ((b2.block _ hz).trans HW0.out);have B2:=hide (BW.out.trans (b2.mono hwg));have u2:w2.cell? ⟨ug,uo+m,none⟩=some (.bool true):=by rw [B2.out.cell (p:=⟨ug,uo+m,none⟩) hug];exact UC.out
 have HL2':=hide (Zau.then HL1.out b2);have HL2:=hide (Zau.then HL2'.out (YAB w2.heap.size w2).drew);have hz2:=Zab G2.out;have s0:=Zaa G2.out 0;have s1:=Zaa G2.out 1;have s2:=Zaa G2.out 2;simp only [YAN,YAK,YAL] at s0 s1 s2;clear hf hown b2 HW0 HW1 HL1 UC HID hz;have hz:=hz2
 go_wp2_with fail
 refine (HIN.out _).mono ?_;rintro e w3 ⟨rfl,rfl⟩
 go_wp2_with fail
 refine Zah (S:=(fun (W:World)=>W.cell? ⟨w.heap.size,0,none⟩=some (.int .i64 (N:Int))/\W.cell? ⟨w.heap.size,1,none⟩=some (.slice a1 ls.length c1)/\W.cell? ⟨w.heap.size,2,none⟩=some (.slice a2 ts.length c2))) (by kernel_rfl) 10 rfl ⟨s0,s1,s2⟩ (fun ops hops hHeld=>?_);refine TD 0 ?_
 try simp only [putS]
 refine TD 1 ?_
 try simp only [putS]
 refine TD 2 ?_
 try simp only [putS]
 refine TD 4 ?_
 try simp only [putS]
 refine TD 5 ?_
 try simp only [putS]
 refine TD 7 ?_
 try simp only [putS]
 refine TC 3 ?_;intro K hK;go_simp;refine (Ze4 (.int .i64 (N:Int)) (.slice a1 ls.length c1) (.slice a2 ts.length c2) ls ((m:Int)+1) _ (by omega) HL2.out).mono ?_;rintro e wa ⟨u,rfl,hu,ba⟩;obtain⟨ua,uc,rfl⟩:=Zac hu;rw [<-Zfw] at hu;have HU:=hide hu;have hsa:=ba.size;clear hu;refine hK.out _ _ ?_ (fun hHeld=>?_)
 ·obtain ⟨m0,m1,m2⟩:=hHeld;exact⟨(ba.cell hz).trans m0,(ba.cell hz).trans m1,(ba.cell hz).trans m2⟩
 clear hK K
 try simp only [putS]
 have HLA:=hide (Zau.then HL2.out ba);refine TC 6 ?_;intro K hK;go_simp;refine (Zge (.int .i64 (N:Int)) (.slice a1 ls.length c1) (.slice a2 ts.length c2) ls ((m:Int)+1) _ (by omega) HLA.out).mono ?_;rintro e wb ⟨rfl,bb⟩;have hsb:=bb.size;refine hK.out _ _ ?_ (fun hHeld=>?_)
 ·obtain ⟨m0,m1,m2⟩:=hHeld;exact⟨(bb.cell (YAC hz ba.size)).trans m0,(bb.cell (YAC hz ba.size)).trans m1,(bb.cell (YAC hz ba.size)).trans m2⟩
 clear hK K
 try simp only [putS]
 have HUB:=hide (ZaM (Zad HU.out bb (YA _)));have HOB:=hide (HO2.out.below ((YAB w2.heap.size w2).drew.trans (ba.trans (bb.mono ba.size))) (YA _));refine TC 8 ?_;intro K hK;go_simp;refine (Zjt (.slice oa qs.length oc) (.slice ua (ZaB ls ((m:Int)+1)).length uc) qs (ZaB ls ((m:Int)+1)) wb.heap.size (Zfm ls ((m:Int)+1)) ((m:Int)+1) wb (HOB.out.wide (Nat.zero_le _) (by have:w2.drew.heap.size=w2.heap.size:=rfl;omega)).in HUB.out (YA _) (by omega) HAL.out HST.out).mono ?_;rintro e wc ⟨x,rs,rfl,hir,hrs,bc⟩;obtain⟨xa,xc,rfl⟩:=Zac hrs.row;have HIR:=hide hir;have HRS:=hide hrs;clear hir hrs;refine hK.out _ _ ?_ (fun hHeld=>?_)
 ·obtain ⟨m0,m1,m2⟩:=hHeld;exact⟨(bc.cell (YAC hz (YAG ba.size bb.size))).trans m0,(bc.cell (YAC hz (YAG ba.size bb.size))).trans m1,(bc.cell (YAC hz (YAG ba.size bb.size))).trans m2⟩
 clear hK K
 try simp only [putS]
 refine TD 9 ?_
 try simp only [putS]
 refine wpAnyH_done (by rw [hops.out];kernel_rfl) ?_ _;clear hops ops;have B9:=hide (B2.out.drew.trans ((ba.trans ((bb.mono ba.size).trans (bc.mono (YAG ba.size bb.size)))).mono B2.out.size));have hfin:w.heap.size<=wb.heap.size:=by have:=B2.out.size;have h1:=ba.size;have h2:w2.drew.heap.size=w2.heap.size:=rfl;omega
 clear s0 s1 s2 u2 ba bb bc;go_wp2;go_ret;rw [HF.out] at HIR;exact⟨_,rs,rfl,HIR,HRS.out.wide hfin (YA _),B9.out⟩
theorem ZkH {x:NetD}(h:ZaZ x=true):∀ t∈x.ts,1<=t.o/\t.o<=x.n:=by
 simp only [ZaZ,YAO] at h;intro t ht;have:=Zn2 h.2 t ht;simp only [ZdS,inB,YAO,YAk] at this;omega
structure RtsG (W:World) (lo:Nat) (v:Value) (qs:List QP):Prop where
 row:Zaw encQ 6 W v qs W.heap.size
 nears:∀ q∈qs,Za0 W lo W.heap.size q
 off:∀ k,v.ownBlock=some k->lo<=k
 len:qs.length<=1000
 wf:∀ q∈qs,RtWf q.1/\q.1.hops.length<=6
theorem Zg3 {z n:Nat}{f:Nat->Bool} (h:W.heap[z]? = some (.cells (rowA (fun j=>.bool (f j)) n) 4)):Zcp W (.slice (some ⟨z,0,none⟩) n n) ((List.range n).map f) W.heap.size:=by
 have hn:((List.range n).map f).length=n:=by simp
 unfold Zcp Zaw Zau;rw [hn];refine⟨_,n,rfl,?_⟩;by_cases h0:n=0
 ·exact .inl h0
 ·refine .inr ⟨z,0,rfl,Zab h,fun j hj=>?_⟩;have hj':j<n:=by omega
  rw [Nat.zero_add,Zcy h hj'];have hd:(flat blE ((List.range n).map f))[j]? = some (.bool (f j)):=by
   have:=Zbi (enc:=blE) (sz:=1) Zln ((List.range n).map f) j 0 (f j) (by simp [hj']) (by omega);simpa [blE] using this
  simp [List.getD_eq_getElem?_getD,hd]
end Go.Proofs.YtdhnddfnckgbjaaGreat
