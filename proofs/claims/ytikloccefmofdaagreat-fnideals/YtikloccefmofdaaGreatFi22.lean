/-
  Parts.
-/
import Derived.Test.YtikloccefmofdaaGreatFi20
namespace Go.Proofs.YtikloccefmofdaaGreat
open Go.RowKit
set_option linter.unusedSimpArgs false
set_option linter.unusedVariables false
set_option maxRecDepth 100000
set_option maxHeartbeats 8000000
variable {W:World}
theorem Tryz.infoI :(Tryz.prog.info? 40).map (fun i=>(i.zero,i.size,i.bytes))=some (some (.slice none 0 0),1,24):=by kernel_rfl
theorem Tryz.infoBl :(Tryz.prog.info? 4).map (fun i=>(i.zero,i.size,i.bytes))=some (some (.bool false),1,1):=by kernel_rfl
theorem drewB {B:Nat}{w:World}(h:Below B w W):Below B w W.drew:=h.trans ⟨rfl,rfl,rfl,YA _,fun _ _=>rfl⟩
theorem ZeO (n:Nat)(w:World):Below w.heap.size w (w.drewN n):=⟨rfl,rfl,rfl,YA _,fun _ _=>rfl⟩
theorem SSt.grow {W':World}{g b lo n:Nat}{o:Nat->Nat->Int}{F:Nat->Bool}{c:Nat->Int}{h:Nat->List Int}{hv:Nat->Value}{u:Value}{xs:List Value}(s:SSt W g b o F c h hv)(hr:W.ownsRow lo 108 3 u n xs)(hk:∀ k,k<W.heap.size->some k≠u.ownBlock->W'.heap[k]? = W.heap[k]?):SSt W' g b o F c h hv:=
 ⟨s.gb,(hk g (Zab s.ln) (Zar hr s.ln (by decide))).trans s.ln,(hk b (Zab s.cs) (Zar hr s.cs (by decide))).trans s.cs,(hk (b+1) (Zab s.hs) (Zar hr s.hs (by decide))).trans s.hs,(hk (b+1+1) (Zab s.ds) (Zar hr s.ds (by decide))).trans s.ds,fun v=>Zal (s.rows v) (fun k hk2=>hk k ((s.rows v).lt k hk2).2 (by
  rcases (s.rows v).2 with ⟨e1,_⟩ | ⟨g2,cap,cur,e1,_,hh,_⟩
  ·rw [e1] at hk2;cases hk2
  ·rw [e1] at hk2;simp [Value.ownBlock] at hk2;subst hk2;exact Zar hr hh (by decide))),s.short⟩
theorem Zfi (v:Value)(ps:List RP)(hi:Nat)(area src:Int)(w:World)(hv:RecsIn w hi v ps)(hhi:hi<=w.heap.size)(hn:tot ps<=1048576):
  Calls Tryz.prog 88 #[v,.int .i64 area,.int .i64 src] w fun e w'=>∃ u qs,e=.returned u/\ZaX (fsts ps) area src (Zaj qs)/\WaysOwn w' w.heap.size w'.heap.size u qs/\Below w.heap.size w w':=by
 obtain⟨a1,c1,rfl⟩:=Zac hv.row;have BW0:Below w.heap.size w (w.alloc (.cells #[] 108)):=(YAC _ _).alloc (YA _) _;have WO0:=Zf0 w w.heap.size (YA _);have hs0:(w.alloc (.cells #[] 108)).heap.size=w.heap.size+1:=by simp
 obtain⟨w0,hw0⟩:∃ W,W=w.alloc (.cells #[] 108):=⟨_,rfl⟩;rw [<-hw0] at BW0 WO0 hs0;have hv0:=hv.below BW0 hhi;have hh0:hi<=w0.heap.size:=by omega
 have HN:=hide (fun W (hb:Below w0.heap.size w0 W)=>Zhy (.slice a1 ps.length c1) ps hi area src W (hv0.below hb hh0) (YAK hh0 hb.size) hn);have HS:=hide (fun W (hb:Below w0.heap.size w0 W)=>Zdn (.slice a1 ps.length c1) ps W hn (Zbu.more ((hv0.below hb hh0).at) (YAK hh0 hb.size)));have HL:=hide (fun W (hb:Below w0.heap.size w0 W)=>ZnG (.slice a1 ps.length c1) ps hi area W (hv0.below hb hh0) (YAK hh0 hb.size) hn);have WO:=hide WO0;clear hv hv0 WO0;obtain⟨D,hD⟩:∃ D,D=Zcd (fsts ps) area src:=⟨_,rfl⟩;obtain⟨NB,hNB⟩:∃ b,b=Zdt (fsts ps) area src:=⟨_,rfl⟩;obtain⟨SB,hSB⟩:∃ b,b=Zax (fsts ps):=⟨_,rfl⟩;obtain⟨IB,hIB⟩:∃ b,b=inB src 1 6:=⟨_,rfl⟩;rw [<-hD, <-hNB] at HN;rw [<-hSB] at HS;have HNB:=hide hNB;have HSB:=hide hSB;have HIB:=hide hIB;clear hD hNB hSB hIB;unfold recC at HN
 go_enter Tryz.func88,Tryz.ntmps88
 go_wp2_with fail
 rw [<-hw0];clear hw0;refine (HN.out _ (YAC _ _)).mono ?_;rintro e w1 ⟨u,rfl,hu,hul,b1⟩;obtain⟨ua,uc,rfl⟩:=Zat.shape hu;have BX:Below w0.heap.size w0 (w1.alloc (.cells #[.int .i64 D.area,.int .i64 D.kind,.int .i64 D.owner,.int .i64 D.key,.int .i64 D.seq,.slice ua D.near.length uc,.int .i64 D.cost,.bool D.far] 37)):=b1.alloc b1.size _;obtain⟨w2,hw2⟩:∃ W,W=w1.alloc (.cells #[.int .i64 D.area,.int .i64 D.kind,.int .i64 D.owner,.int .i64 D.key,.int .i64 D.seq,.slice ua D.near.length uc,.int .i64 D.cost,.bool D.far] 37):=⟨_,rfl⟩;rw [<-hw2] at BX;clear hu hul HN
 go_wp2_with fail
 rw [<-hw2];clear hw2 b1;refine (HS.out _ BX).mono ?_;rintro e w3 ⟨rfl,b3⟩;have B3:Below w0.heap.size w0 w3:=BX.trans (b3.mono BX.size);have B3w:Below w.heap.size w w3:=BW0.trans (B3.mono (by omega));have EMP:=hide (fun (e:(SB&&IB&&NB)=false)=>show ZaX (fsts ps) area src (Zaj []) by unfold ZaX;rw [<-HSB.out, <-HIB.out, <-HNB.out,e];rfl);have WO3:=hide ((WO.out.below B3 (YA _)).wide (YA _) B3.size);clear HS b3;cases SB
 ·go_wp2;go_ret;exact⟨_,[],rfl,EMP.out rfl,WO3.out,B3w⟩
 ·go_wp2_with fail
  refine (ZbU _ _ _ _).mono ?_;rintro e w4 ⟨rfl,rfl⟩;rw [<-HIB.out];cases IB
  ·go_wp2;go_ret;exact⟨_,[],rfl,EMP.out rfl,WO3.out,B3w⟩
  ·cases NB
   ·go_wp2;go_ret;exact⟨_,[],rfl,EMP.out rfl,WO3.out,B3w⟩
   ·go_wp2_with fail
    refine (HL.out _ B3).mono ?_;rintro e w4 ⟨o,rfl,hg,ho,b4⟩;obtain⟨s,rfl⟩:∃ s:Nat,src=(s:Int):=⟨src.toNat,by have:=Zd6.1 HIB.out.symm;omega⟩;have hs6:=Zd6.1 HIB.out.symm;have hs1:1<=s:=by omega
    have hs7:s<=6:=by omega
    have HLK:=hide (ZdQ (area:=area) HSB.out.symm);have HO:=hide (show ∀ u v,1<=u->u<=6->1<=v->v<=6->o u v=Zb3 (fsts ps) area u v by
     intro u v h1 h2 h3 h4;rw [ho u v h1 h2 h3 h4];unfold Zb3;rw [if_pos ⟨⟨h1,h2⟩,h3,h4⟩])
    have FIN:=hide (fun c h (hf:Fix (Zb3 (fsts ps) area) s c h)=>show ZaX (fsts ps) area (s:Int) (Zcc c h 6) by
     unfold ZaX;rw [<-HSB.out, <-HIB.out, <-HNB.out];exact⟨c,h,by simpa using hf,rfl⟩)
    obtain⟨L,hLL⟩:∃ L,L=Zb3 (fsts ps) area:=⟨_,rfl⟩;rw [<-hLL] at HLK HO FIN;clear hLL ho EMP HSB HIB HNB;obtain⟨g,hgg⟩:∃ g,g=w3.heap.size:=⟨_,rfl⟩;rw [<-hgg] at hg |-;have B4:Below w0.heap.size w0 w4:=B3.trans (b4.mono B3.size);have S5:=SSt.start hg;have B5:Below w0.heap.size w0 (((w4.alloc (.cells (rowA (fun _=>.int .i64 0) 7) 3)).alloc (.cells (rowA (fun _=>.slice none 0 0) 7) 40)).alloc (.cells (rowA (fun _=>.bool false) 7) 4)):=((B4.alloc B4.size _).alloc (by have:=B4.size;simp;omega) _).alloc (by have:=B4.size;simp;omega) _;have hb4:=B4.size;have hgz:w0.heap.size<=g:=by rw [hgg];exact B3.size
    clear b4 B3 B3w WO3 hg BX hgg HL
    go_wp2_with (first | (at_make;first | refine Zb8 _ rfl _ _ 40 rfl 3 (.int .i64 0) 8 Tryz.underlying40 Tryz.info3 rfl 7 rfl rfl (by omega) (by omega) ?_ | refine Zb8 _ rfl _ _ 169 rfl 40 (.slice none 0 0) 24 Tryz.underlying169 Tryz.infoI rfl 7 rfl rfl (by omega) (by omega) ?_ | refine Zb8 _ rfl _ _ 28 rfl 4 (.bool false) 1 Tryz.underlying28 Tryz.infoBl rfl 7 rfl rfl (by omega) (by omega) ?_))
    generalize (((w4.alloc (.cells (rowA (fun _=>.int .i64 0) 7) 3)).alloc (.cells (rowA (fun _=>.slice none 0 0) 7) 40)).alloc (.cells (rowA (fun _=>.bool false) 7) 4))=w5 at *;obtain⟨b,hb⟩:∃ b,b=w4.heap.size:=⟨_,rfl⟩;go_wp2;rw [<-hb] at S5 hb4 |-;clear hb B4;have HS5:=hide S5;clear S5
    go_loopw [14] (fun i wr=>∃ k:Nat,1<=k/\k<=7/\i=.int .i64 (k:Int)/\SSt wr g b o (fun _=>false) (fun v=>if v<k then -1 else 0) (fun _=>[]) (fun _=>.slice none 0 0)/\Below w0.heap.size w0 wr) (fun i _=>8-(intOf i).toNat)
    case atStart=>exact ⟨1,by omega,by omega,rfl,HS5.out.congr (fun v h1 h2=>by rw [if_neg (by omega)]),B5⟩
    case round=>
     rename World=>wa
     obtain⟨k,hk1,hk,rfl,hst,hnx⟩:=hrel;have HST:=hide hst;clear hst HS5 B5;by_cases hlt:k<7
     ·have hk6:(k:Int)<=6:=by omega
      have hj1:(0:Int)<=(k:Int):=by omega
      have hj2:(k:Int)<7:=by omega
      obtain⟨x1,d1⟩:∃ x,wa.cell? ⟨b,k,none⟩=some (.int .i64 x):=⟨_,HST.out.cost (v:=k) (by omega) (by omega)⟩;have f1:=Zae HST.out.cs;have S6:=hide ((HST.out.setC (v:=k) (by omega) (-1)).congr (d:=fun v=>if v<k+1 then -1 else 0) (fun v h1 h2=>by
       show (if v<k+1 then (-1:Int) else 0)=if v=k then -1 else if v<k then -1 else 0
       by_cases e:v=k
       ·rw [if_pos e,if_pos (by omega)]
       ·rw [if_neg e];by_cases e2:v<k
        ·rw [if_pos e2,if_pos (by omega)]
        ·rw [if_neg (by omega),if_neg (by omega)]))
      have B6:=hide (hnx.setCell (p:=⟨b,k,none⟩) (by show w0.heap.size<=b;omega) (.int .i64 (-1)));go_wp2;go_roundw
      case rel=>exact ⟨k+1,by omega,by omega,by go_num,S6.out,B6.out⟩
      case measure=>simp [intOf];omega
     ·have hk6:¬(k:Int)<=6:=by omega
      have hkk:k=7:=by omega
      subst hkk;obtain⟨x1,d1⟩:∃ x,wa.cell? ⟨b,s,none⟩=some (.int .i64 x):=⟨_,HST.out.cost (v:=s) (by omega) (by omega)⟩;have f1:=Zae HST.out.cs;have hj1:(0:Int)<=(s:Int):=by omega
      have hj2:(s:Int)<7:=by omega
      have S6:=hide ((HST.out.setC (v:=s) (by omega) 0).congr (d:=fun v=>if v=s then 0 else -1) (fun v h1 h2=>by
       show (if v=s then (0:Int) else -1)=if v=s then 0 else if v<7 then -1 else 0
       by_cases e:v=s
       ·rw [if_pos e,if_pos e]
       ·rw [if_neg e,if_neg e,if_pos (by omega)]))
      have B6:=hide (hnx.setCell (p:=⟨b,s,none⟩) (by show w0.heap.size<=b;omega) (.int .i64 0));go_wp2;generalize wa.setCell ⟨b,s,none⟩ (.int .i64 0)=w6 at *;clear HST d1 f1 hnx hk6
      go_loopw [15] (fun i wr=>∃ (r:Nat) (F:Nat->Bool) (c:Nat->Int) (h:Nat->List Int) (hv:Nat->Value),1<=r/\r<=7/\i=.int .i64 (r:Int)/\Hid (SSt wr g b o F c h hv)/\Hid (AtRound L s F c h r)/\Below w0.heap.size w0 wr) (fun i _=>8-(intOf i).toNat)
      case atStart=>exact ⟨1,_,_,_,_,by omega,by omega,rfl,S6,hide (AtRound.init ⟨hs1,hs7⟩),B6.out⟩
      case round=>
       rename World=>wb
       obtain⟨r,F,c,h,hv,hr1,hr7,rfl,HS,HA,hnx⟩:=hrel;clear S6 B6;by_cases hrl:r<7
       ·have hr6:(r:Int)<=6:=by omega
        go_wp2
        go_loopw [17,16] (fun i a' wr=>∃ (v a:Nat),1<=v/\v<=7/\a<=6/\i=.int .i64 (v:Int)/\a'=.int .i64 (a:Int)/\Hid (ZkT F c v a)/\Hid (SSt wr g b o F c h hv)/\Below w0.heap.size w0 wr) (fun i _ _=>8-(intOf i).toNat)
        case atStart=>exact ⟨1,0,by omega,by omega,by omega,rfl,rfl,hide (.inl ⟨rfl,fun x h1 h2=>by omega⟩),HS,hnx⟩
        case round=>
         rename World=>wc
         obtain⟨v,a,hv1,hv7,ha6,rfl,rfl,HM,HSc,hnc⟩:=hrel;clear HS hnx;by_cases hvl:v<7
         ·have hv6:(v:Int)<=6:=by omega
          have hvi:(0:Int)<=(v:Int):=by omega
          have hvj:(v:Int)<7:=by omega
          have dd:=HSc.out.done (v:=v) (by omega);have dc:=HSc.out.cost (v:=v) hv1 (by omega);have SB:=hide (fun W (hb:Below wc.heap.size wc W)=>HSc.out.below hb);obtain⟨x,hx⟩:∃ x,x=c v:=⟨_,rfl⟩;rw [<-hx] at dc;have HX:=hide hx;clear hx;cases hF:F v with
          | true=>
           rw [hF] at dd;have HM2:=hide (Zgd HM.out (.inl hF));clear HSc;go_wp2
           go_quiet (fail)
           go_wp2;go_roundw
           case rel=>exact ⟨v+1,a,by omega,by omega,ha6,by go_num,rfl,HM2,hide (SB.out _ (ZeO _ _)),hnc.trans ((ZeO _ _).mono hnc.size)⟩
           case measure=>simp [intOf];omega
          | false=>
           rw [hF] at dd;by_cases hx0:0<=x
           ·by_cases ha:a=0
            ·subst ha;have HM2:=hide (Zic HM.out hv1 hF (by rw [<-HX.out];exact hx0) (.inl rfl));clear HSc;go_wp2
             go_quiet (fail)
             go_wp2;go_roundw
             case rel=>exact ⟨v+1,v,by omega,by omega,by omega,by go_num,rfl,HM2,hide (SB.out _ (ZeO _ _)),hnc.trans ((ZeO _ _).mono hnc.size)⟩
             case measure=>simp [intOf];omega
            ·obtain ⟨y,hy⟩:∃ y,y=c a:=⟨_,rfl⟩;have da:=HSc.out.cost (v:=a) (by omega) ha6;rw [<-hy] at da;have HY:=hide hy;have hai:(0:Int)<=(a:Int):=by omega
             have haj:(a:Int)<7:=by omega
             have hane:((a:Int)==0)=false:=by simpa using (show ¬(a:Int)=0 by omega)
             have hane2:¬(a:Int)=0:=by omega
             clear hy HSc;by_cases hxy:x<y
             ·have HM2:=hide (Zic HM.out hv1 hF (by rw [<-HX.out];exact hx0) (.inr (by rw [<-HX.out, <-HY.out];exact hxy)));go_wp2
              go_quiet (fail)
              go_wp2;go_roundw
              case rel=>exact ⟨v+1,v,by omega,by omega,by omega,by go_num,rfl,HM2,hide (SB.out _ (ZeO _ _)),hnc.trans ((ZeO _ _).mono hnc.size)⟩
              case measure=>simp [intOf];omega
             ·have HM2:=hide (Zgd HM.out (.inr (.inr ⟨by omega,by rw [<-HX.out, <-HY.out];omega⟩)));go_wp2
              go_quiet (fail)
              go_wp2;go_roundw
              case rel=>exact ⟨v+1,a,by omega,by omega,ha6,by go_num,rfl,HM2,hide (SB.out _ (ZeO _ _)),hnc.trans ((ZeO _ _).mono hnc.size)⟩
              case measure=>simp [intOf];omega
           ·have HM2:=hide (Zgd HM.out (.inr (.inl (by rw [<-HX.out];omega))));have hxd:decide (0<=x)=false:=by simpa using hx0
            have hxe:decide (x>=0)=false:=by simpa using hx0
            clear HSc;go_wp2
            go_quiet (fail)
            go_wp2;go_roundw
            case rel=>exact ⟨v+1,a,by omega,by omega,ha6,by go_num,rfl,HM2,hide (SB.out _ (ZeO _ _)),hnc.trans ((ZeO _ _).mono hnc.size)⟩
            case measure=>simp [intOf];omega
         ·have hv6:¬(v:Int)<=6:=by omega
          have hvv:v=7:=by omega
          subst hvv;by_cases ha:a=0
          ·subst ha;have HA2:=hide (HA.out.none HM.out);go_wp2;go_roundw
           case rel=>exact ⟨7,F,c,h,hv,by omega,by omega,by go_num,HSc,HA2,hnc⟩
           case measure=>simp [intOf];omega
          ·have HMA:=HM.out;have hm2:1<=a/\a<7/\F a=false/\0<=c a:=by
            rcases HMA with ⟨h1,_⟩ | ⟨h1,h2,h3,h4,_⟩
            ·exact absurd h1 ha
            ·exact ⟨h1,h2,h3,h4⟩
           have hai:(0:Int)<=(a:Int):=by omega
           have haj:(a:Int)<7:=by omega
           have hane:((a:Int)==0)=false:=by
            have h1:¬(a:Int)=0:=by omega
            simpa using h1
           have hane2:¬(a:Int)=0:=by omega
           have dd:=HSc.out.done (v:=a) ha6;have fd:=Zae HSc.out.ds;have SD:=hide (HSc.out.setD a);have BD:=hide (hnc.setCell (p:=⟨b+1+1,a,none⟩) (by show w0.heap.size<=b+1+1;omega) (.bool true));have HFa:=hide hm2.2.2.1;have hca:=hm2.2.2.2;have HAN:=hide (HA.out.next HLK.out hrl HM.out (by omega));have hcb:=HA.out.bnd a;have hcard:Zb4 F<=5:=by
            have h1:=ZdN (F:=F) (u:=a) ⟨by omega,by omega⟩ hm2.2.2.1;have h2:=ZiQ (fun v=>F v||v==a);omega
           have hcb2:c a<=5000:=by omega
           clear HMA HM hm2 hcb hcard;go_wp2;generalize wc.setCell ⟨b+1+1,a,none⟩ (.bool true)=wd at *;clear dd fd HSc hnc
           go_loopw [18] (fun i wr=>∃ (v:Nat) (hw:Nat->Value),1<=v/\v<=7/\i=.int .i64 (v:Int)/\Hid (SSt wr g b o (fun x=>F x||x==a) (mixC L c a v) (mixH L s c h a v) hw)/\Below w0.heap.size w0 wr) (fun i _=>8-(intOf i).toNat)
           case atStart=>exact ⟨1,hv,by omega,by omega,rfl,hide (by rw [Zmo HLK.out,Zmq HLK.out];exact SD.out),BD.out⟩
           case round=>
            rename World=>we
            obtain⟨v,hw,hv1,hv7,rfl,HSe,hne⟩:=hrel;clear SD BD;by_cases hvl:v<7
            ·have hv6:(v:Int)<=6:=by omega
             have hvi:(0:Int)<=(v:Int):=by omega
             have hvj:(v:Int)<7:=by omega
             have hm1:IntKind.i64.wrap ((a:Int)*7)=((a*7:Nat):Int):=by rw [ZaH _ (by omega) (by omega)];omega
             have hm2:IntKind.i64.wrap (((a*7:Nat):Int)+(v:Int))=((a*7+v:Nat):Int):=by rw [ZaH _ (by omega) (by omega)];omega
             have hm3:(0:Int)<=((a*7+v:Nat):Int):=by omega
             have hm4:((a*7+v:Nat):Int)<49:=by omega
             have dl:=HSe.out.link (u:=a) (v:=v) ha6 (by omega);have dd:=HSe.out.done (v:=v) (by omega);have dcv:=HSe.out.cost (v:=v) hv1 (by omega);have dca:=HSe.out.cost (v:=a) (by omega) ha6;have dhv:=HSe.out.hop (v:=v) (by omega);have dha:=HSe.out.hop (v:=a) ha6;rw [HO.out a v (by omega) ha6 hv1 (by omega)] at dl;rw [ZdB] at dcv;rw [ZoU hca] at dca;have RV:=HSe.out.rows v;have RA:=HSe.out.rows a;rw [ZfH] at RV;rw [Zlv hca] at RA;have hlv:(h v).length<=6:=by have:=HSe.out.short v;rw [ZfH] at this;exact this
             have hla:(h a).length<=6:=by have:=HSe.out.short a;rw [Zlv hca] at this;exact this
             obtain⟨pv,qv,epv⟩:=Zac RV;obtain⟨pa,qa,epa⟩:=Zac RA;rw [epv] at dhv RV;rw [epa] at dha RA;have hsz:=HSe.out.size;have hgb:=HSe.out.gb;have HRV:=hide RV;have HRA:=hide RA;clear RV RA epv epa;have hl0:=HLK.out.pos a v;have hl1:=HLK.out.le a v;obtain⟨lk,hlk⟩:∃ x,x=L a v:=⟨_,rfl⟩;obtain⟨fd,hfd⟩:∃ x,x=(F v||v==a):=⟨_,rfl⟩;obtain⟨cv,hcv⟩:∃ x,x=c v:=⟨_,rfl⟩;obtain⟨ca,hcae⟩:∃ x,x=c a:=⟨_,rfl⟩;rw [<-hlk] at dl hl0 hl1;rw [<-hfd] at dd;rw [<-hcv] at dcv;rw [<-hcae] at dca;have hca':0<=ca:=by rw [hcae];exact hca
             have hca5:ca<=5000:=by rw [hcae];exact hcb2
             have HLk:=hide hlk;have HFd:=hide hfd;have HCv:=hide hcv;have HCa:=hide hcae;clear hlk hfd hcv hcae;have KEEP:=hide (fun (hk:ZbG L s c h a v=h v/\Zaz L c a v=c v)=>show SSt we g b o (fun x=>F x||x==a) (mixC L c a (v+1)) (mixH L s c h a (v+1)) hw by rw [Zc3 hk.2,ZfG hk.1];exact HSe.out);by_cases hlz:lk=0
             ·have HK:=hide (KEEP.out (Zfd (by rw [<-HLk.out];omega)));subst hlz;clear KEEP HSe;go_wp2;go_roundw
              case rel=>exact ⟨v+1,hw,by omega,by omega,by go_num,HK,hne⟩
              case measure=>simp [intOf];omega
             ·have hlb:(lk==0)=false:=by simpa using hlz
              have hlp:0<lk:=by omega
              cases fd
              ·have hw9:IntKind.i64.wrap (ca+lk)=ca+lk:=ZaH _ (by omega) (by omega);have hgl:g<we.heap.size:=by omega
               have hbl:b<we.heap.size:=by omega
               have hbl1:b+1<we.heap.size:=by omega
               have hbl2:b+1+1<we.heap.size:=by omega
               by_cases has:a=s
               ·subst has;have hnw:we.heap.size<(we.alloc (.cells #[.int .i64 (v:Int)] 3)).heap.size:=by simp
                have S0:=HSe.out.below ((YAC we.heap.size we).alloc (YA _) (.cells #[.int .i64 (v:Int)] 3));have RW:(we.alloc (.cells #[.int .i64 (v:Int)] 3)).ownsRow (b+3) 3 1 (.slice (some ⟨we.heap.size,0,none⟩) 1 1) [(v:Int)].length (flat intE [(v:Int)]):=World.ownsRow_lit we #[.int .i64 (v:Int)] 1 hsz (by unfold maxLen;omega) (by simp);have RV0:=Zad HRV.out ((YAC we.heap.size we).alloc (YA _) (.cells #[.int .i64 (v:Int)] 3)) (YA _);have BW:Below w0.heap.size w0 (we.alloc (.cells #[.int .i64 (v:Int)] 3)):=hne.alloc hne.size _;have hwl:wayL a h a v=[(v:Int)]:=by unfold wayL;rw [if_pos rfl]
                have HWL:=hide hwl;have HS0:=hide S0;have HRW:=hide RW;have HRV0:=hide RV0;have HBW:=hide BW;clear S0 RW RV0 BW hwl;by_cases hc0:cv<0
                ·have hrx:=Zc7 (L:=L) (src:=a) (c:=c) (h:=h) (u:=a) (v:=v) (by rw [<-HLk.out];exact hlp) (by rw [<-HCv.out];exact .inl hc0);rw [HWL.out, <-HCa.out, <-HLk.out] at hrx;have HRX:=hide hrx;have ez:(we.setCell ⟨b,v,none⟩ (.int .i64 (ca+lk))).heap.size=we.heap.size:=by simp
                 have S1:=((HSe.out.setC (v:=v) hv1 (ca+lk)).below ((YAC _ _).alloc (YA _) (.cells #[.int .i64 (v:Int)] 3))).below ((YAC _ _).alloc (YA _) (.cells #[] 3));have RWx:((we.setCell ⟨b,v,none⟩ (.int .i64 (ca+lk))).alloc (.cells #[.int .i64 (v:Int)] 3)).ownsRow (b+3) 3 1 (.slice (some ⟨(we.setCell ⟨b,v,none⟩ (.int .i64 (ca+lk))).heap.size,0,none⟩) 1 1) [(v:Int)].length (flat intE [(v:Int)]):=World.ownsRow_lit _ #[.int .i64 (v:Int)] 1 (by rw [ez];exact hsz) (by unfold maxLen;omega) (by simp);rw [ez] at RWx;have R1:=Zch (Zad RWx ((YAC _ _).alloc (YA _) (.cells #[] 3)) (YA _));have R0:ZaI (((we.setCell ⟨b,v,none⟩ (.int .i64 (ca+lk))).alloc (.cells #[.int .i64 (v:Int)] 3)).alloc (.cells #[] 3)) (.slice (some ⟨we.heap.size+1,0,none⟩) 0 0) [] (((we.setCell ⟨b,v,none⟩ (.int .i64 (ca+lk))).alloc (.cells #[.int .i64 (v:Int)] 3)).alloc (.cells #[] 3)).heap.size:=Zch (Zdm _ _ 0 (by simp) (Nat.zero_le _));have HAD:=hide (ZdV _ _ [] [(v:Int)] _ (by simp) (by simp) R0 R1);have B1:Below w0.heap.size w0 (((we.setCell ⟨b,v,none⟩ (.int .i64 (ca+lk))).alloc (.cells #[.int .i64 (v:Int)] 3)).alloc (.cells #[] 3)):=(((hne.setCell (p:=⟨b,v,none⟩) (by show w0.heap.size<=b;omega) _).alloc (by have:=hne.size;simp;omega) _).alloc (by have:=hne.size;simp;omega) _);clear RWx;have HS1:=hide S1;have HB1:=hide B1;have fc:=Zae HSe.out.cs;clear hrx S1 R1 R0 B1 KEEP HSe HS0 HRW HRV0 HBW
                 go_wp2_with fail
                 refine HAD.out.mono ?_;rintro e w7 ⟨x,rfl,hox,b7⟩;obtain⟨xa,xc,rfl⟩:=Zac hox;have S7:=HS1.out.below b7;have B7:Below w0.heap.size w0 w7:=HB1.out.trans (b7.mono HB1.out.size);have d7:=S7.hop (v:=v) (by omega);have f7:=Zae S7.hs;have S8:=hide (S7.setH v (Zaf hox HS1.out.size) (ZcF _ _));have B8:=hide (B7.setCell (p:=⟨b+1,v,none⟩) (by show w0.heap.size<=b+1;omega) (.slice xa (addL [] [(v:Int)]).length xc));clear S7 B7 hox b7 HAD;go_wp2;go_roundw
                 case rel=>exact ⟨v+1,_,by omega,by omega,by go_num,hide (by rw [ZdC,Zcj,HRX.out.1,HRX.out.2];exact S8.out),B8.out⟩
                 case measure=>simp [intOf];omega
                ·have hc0':0<=cv:=by omega
                 by_cases hcl:ca+lk<cv
                 ·have hrx:=Zc7 (L:=L) (src:=a) (c:=c) (h:=h) (u:=a) (v:=v) (by rw [<-HLk.out];exact hlp) (by rw [<-HCv.out, <-HCa.out, <-HLk.out];exact .inr hcl);rw [HWL.out, <-HCa.out, <-HLk.out] at hrx;have HRX:=hide hrx;have ez:(we.setCell ⟨b,v,none⟩ (.int .i64 (ca+lk))).heap.size=we.heap.size:=by simp
                  have S1:=((HSe.out.setC (v:=v) hv1 (ca+lk)).below ((YAC _ _).alloc (YA _) (.cells #[.int .i64 (v:Int)] 3))).below ((YAC _ _).alloc (YA _) (.cells #[] 3));have RWx:((we.setCell ⟨b,v,none⟩ (.int .i64 (ca+lk))).alloc (.cells #[.int .i64 (v:Int)] 3)).ownsRow (b+3) 3 1 (.slice (some ⟨(we.setCell ⟨b,v,none⟩ (.int .i64 (ca+lk))).heap.size,0,none⟩) 1 1) [(v:Int)].length (flat intE [(v:Int)]):=World.ownsRow_lit _ #[.int .i64 (v:Int)] 1 (by rw [ez];exact hsz) (by unfold maxLen;omega) (by simp);rw [ez] at RWx;have R1:=Zch (Zad RWx ((YAC _ _).alloc (YA _) (.cells #[] 3)) (YA _));have R0:ZaI (((we.setCell ⟨b,v,none⟩ (.int .i64 (ca+lk))).alloc (.cells #[.int .i64 (v:Int)] 3)).alloc (.cells #[] 3)) (.slice (some ⟨we.heap.size+1,0,none⟩) 0 0) [] (((we.setCell ⟨b,v,none⟩ (.int .i64 (ca+lk))).alloc (.cells #[.int .i64 (v:Int)] 3)).alloc (.cells #[] 3)).heap.size:=Zch (Zdm _ _ 0 (by simp) (Nat.zero_le _));have HAD:=hide (ZdV _ _ [] [(v:Int)] _ (by simp) (by simp) R0 R1);have B1:Below w0.heap.size w0 (((we.setCell ⟨b,v,none⟩ (.int .i64 (ca+lk))).alloc (.cells #[.int .i64 (v:Int)] 3)).alloc (.cells #[] 3)):=(((hne.setCell (p:=⟨b,v,none⟩) (by show w0.heap.size<=b;omega) _).alloc (by have:=hne.size;simp;omega) _).alloc (by have:=hne.size;simp;omega) _);clear RWx;have HS1:=hide S1;have HB1:=hide B1;have fc:=Zae HSe.out.cs;clear hrx S1 R1 R0 B1 KEEP HSe HS0 HRW HRV0 HBW
                  go_wp2_with fail
                  refine HAD.out.mono ?_;rintro e w7 ⟨x,rfl,hox,b7⟩;obtain⟨xa,xc,rfl⟩:=Zac hox;have S7:=HS1.out.below b7;have B7:Below w0.heap.size w0 w7:=HB1.out.trans (b7.mono HB1.out.size);have d7:=S7.hop (v:=v) (by omega);have f7:=Zae S7.hs;have S8:=hide (S7.setH v (Zaf hox HS1.out.size) (ZcF _ _));have B8:=hide (B7.setCell (p:=⟨b+1,v,none⟩) (by show w0.heap.size<=b+1;omega) (.slice xa (addL [] [(v:Int)]).length xc));clear S7 B7 hox b7 HAD;go_wp2;go_roundw
                  case rel=>exact ⟨v+1,_,by omega,by omega,by go_num,hide (by rw [ZdC,Zcj,HRX.out.1,HRX.out.2];exact S8.out),B8.out⟩
                  case measure=>simp [intOf];omega
                 ·by_cases hce:ca+lk=cv
                  ·have hrx:=Zfc (L:=L) (src:=a) (c:=c) (h:=h) (u:=a) (v:=v) (by rw [<-HLk.out];exact hlp) (by rw [<-HCv.out];exact hc0') (by rw [<-HCv.out, <-HCa.out, <-HLk.out];exact hce);rw [HWL.out] at hrx;have HRX:=hide hrx;have HAD:=hide (ZdV _ _ (h v) [(v:Int)] (we.alloc (.cells #[.int .i64 (v:Int)] 3)) (by omega) (by simp) (Zch HRV0.out) (Zch HRW.out));have hceb:(ca+lk==cv)=true:=by simpa using hce
                   have hcln:¬ca+lk<cv:=hcl;have HCE:=hide hce;clear hrx KEEP hce HSe
                   go_wp2_with fail
                   refine HAD.out.mono ?_;rintro e w7 ⟨x,rfl,hox,b7⟩;obtain⟨xa,xc,rfl⟩:=Zac hox;have S7:=HS0.out.below b7;have B7:Below w0.heap.size w0 w7:=HBW.out.trans (b7.mono HBW.out.size);have d7:=S7.hop (v:=v) (by omega);have f7:=Zae S7.hs;have S8:=hide (S7.setH v (Zaf hox HS0.out.size) (ZcF _ _));have B8:=hide (B7.setCell (p:=⟨b+1,v,none⟩) (by show w0.heap.size<=b+1;omega) (.slice xa (addL (h v) [(v:Int)]).length xc));have HU:=hide (show mixC L c a (v+1)=mixC L c a v from Zc3 HRX.out.2);clear S7 B7 hox b7 HAD;go_wp2;go_roundw
                   case rel=>exact ⟨v+1,_,by omega,by omega,by go_num,hide (by rw [HU.out,Zcj,HRX.out.1];exact S8.out),B8.out⟩
                   case measure=>simp [intOf];omega
                  ·have hrx:=ZdU (L:=L) (src:=a) (c:=c) (h:=h) (u:=a) (v:=v) (by rw [<-HCv.out];exact hc0') (by rw [<-HCv.out, <-HCa.out, <-HLk.out];omega);have HK:=hide (show SSt (we.alloc (.cells #[.int .i64 (v:Int)] 3)) g b o (fun x=>F x||x==a) (mixC L c a (v+1)) (mixH L a c h a (v+1)) hw by rw [Zc3 hrx.2,ZfG hrx.1];exact HS0.out);have hceb:(ca+lk==cv)=false:=by simpa using hce
                   clear hrx KEEP;go_wp2;go_roundw
                   case rel=>exact ⟨v+1,hw,by omega,by omega,by go_num,HK,HBW.out⟩
                   case measure=>simp [intOf];omega
               ·have hasb:((a:Int)==(s:Int))=false:=by
                 have h1:¬(a:Int)=(s:Int):=by omega
                 simpa using h1
                have hasn:¬(a:Int)=(s:Int):=by omega
                have S0:=HSe.out;have RW:=HRA.out;have RV0:=HRV.out;have BW:=hne;have hwl:wayL s h a v=h a:=by unfold wayL;rw [if_neg has]
                have HWL:=hide hwl;have HS0:=hide S0;have HRW:=hide RW;have HRV0:=hide RV0;have HBW:=hide BW;clear S0 RW RV0 BW hwl;by_cases hc0:cv<0
                ·have hrx:=Zc7 (L:=L) (src:=s) (c:=c) (h:=h) (u:=a) (v:=v) (by rw [<-HLk.out];exact hlp) (by rw [<-HCv.out];exact .inl hc0);rw [HWL.out, <-HCa.out, <-HLk.out] at hrx;have HRX:=hide hrx;have S1:=(HSe.out.setC (v:=v) hv1 (ca+lk)).below ((YAC _ _).alloc (YA _) (.cells #[] 3));have R1:=Zch (Zad (ZaG (p:=b) (j:=v) (u:=.int .i64 (ca+lk)) HRW.out (by omega)) ((YAC _ _).alloc (YA _) (.cells #[] 3)) (YA _));have R0:ZaI ((we.setCell ⟨b,v,none⟩ (.int .i64 (ca+lk))).alloc (.cells #[] 3)) (.slice (some ⟨we.heap.size,0,none⟩) 0 0) [] ((we.setCell ⟨b,v,none⟩ (.int .i64 (ca+lk))).alloc (.cells #[] 3)).heap.size:=Zch (Zdm _ _ 0 (by simp) (Nat.zero_le _));have HAD:=hide (ZdV _ _ [] (h a) _ (by simp) (by omega) R0 R1);have B1:Below w0.heap.size w0 ((we.setCell ⟨b,v,none⟩ (.int .i64 (ca+lk))).alloc (.cells #[] 3)):=((hne.setCell (p:=⟨b,v,none⟩) (by show w0.heap.size<=b;omega) _).alloc (by have:=hne.size;simp;omega) _);have HS1:=hide S1;have HB1:=hide B1;have fc:=Zae HSe.out.cs;clear hrx S1 R1 R0 B1 KEEP HSe HS0 HRW HRV0 HBW
                 go_wp2_with fail
                 refine HAD.out.mono ?_;rintro e w7 ⟨x,rfl,hox,b7⟩;obtain⟨xa,xc,rfl⟩:=Zac hox;have S7:=HS1.out.below b7;have B7:Below w0.heap.size w0 w7:=HB1.out.trans (b7.mono HB1.out.size);have d7:=S7.hop (v:=v) (by omega);have f7:=Zae S7.hs;have S8:=hide (S7.setH v (Zaf hox HS1.out.size) (ZcF _ _));have B8:=hide (B7.setCell (p:=⟨b+1,v,none⟩) (by show w0.heap.size<=b+1;omega) (.slice xa (addL [] (h a)).length xc));clear S7 B7 hox b7 HAD;go_wp2;go_roundw
                 case rel=>exact ⟨v+1,_,by omega,by omega,by go_num,hide (by rw [ZdC,Zcj,HRX.out.1,HRX.out.2];exact S8.out),B8.out⟩
                 case measure=>simp [intOf];omega
                ·have hc0':0<=cv:=by omega
                 by_cases hcl:ca+lk<cv
                 ·have hrx:=Zc7 (L:=L) (src:=s) (c:=c) (h:=h) (u:=a) (v:=v) (by rw [<-HLk.out];exact hlp) (by rw [<-HCv.out, <-HCa.out, <-HLk.out];exact .inr hcl);rw [HWL.out, <-HCa.out, <-HLk.out] at hrx;have HRX:=hide hrx;have S1:=(HSe.out.setC (v:=v) hv1 (ca+lk)).below ((YAC _ _).alloc (YA _) (.cells #[] 3));have R1:=Zch (Zad (ZaG (p:=b) (j:=v) (u:=.int .i64 (ca+lk)) HRW.out (by omega)) ((YAC _ _).alloc (YA _) (.cells #[] 3)) (YA _));have R0:ZaI ((we.setCell ⟨b,v,none⟩ (.int .i64 (ca+lk))).alloc (.cells #[] 3)) (.slice (some ⟨we.heap.size,0,none⟩) 0 0) [] ((we.setCell ⟨b,v,none⟩ (.int .i64 (ca+lk))).alloc (.cells #[] 3)).heap.size:=Zch (Zdm _ _ 0 (by simp) (Nat.zero_le _));have HAD:=hide (ZdV _ _ [] (h a) _ (by simp) (by omega) R0 R1);have B1:Below w0.heap.size w0 ((we.setCell ⟨b,v,none⟩ (.int .i64 (ca+lk))).alloc (.cells #[] 3)):=((hne.setCell (p:=⟨b,v,none⟩) (by show w0.heap.size<=b;omega) _).alloc (by have:=hne.size;simp;omega) _);have HS1:=hide S1;have HB1:=hide B1;have fc:=Zae HSe.out.cs;clear hrx S1 R1 R0 B1 KEEP HSe HS0 HRW HRV0 HBW
                  go_wp2_with fail
                  refine HAD.out.mono ?_;rintro e w7 ⟨x,rfl,hox,b7⟩;obtain⟨xa,xc,rfl⟩:=Zac hox;have S7:=HS1.out.below b7;have B7:Below w0.heap.size w0 w7:=HB1.out.trans (b7.mono HB1.out.size);have d7:=S7.hop (v:=v) (by omega);have f7:=Zae S7.hs;have S8:=hide (S7.setH v (Zaf hox HS1.out.size) (ZcF _ _));have B8:=hide (B7.setCell (p:=⟨b+1,v,none⟩) (by show w0.heap.size<=b+1;omega) (.slice xa (addL [] (h a)).length xc));clear S7 B7 hox b7 HAD;go_wp2;go_roundw
                  case rel=>exact ⟨v+1,_,by omega,by omega,by go_num,hide (by rw [ZdC,Zcj,HRX.out.1,HRX.out.2];exact S8.out),B8.out⟩
                  case measure=>simp [intOf];omega
                 ·by_cases hce:ca+lk=cv
                  ·have hrx:=Zfc (L:=L) (src:=s) (c:=c) (h:=h) (u:=a) (v:=v) (by rw [<-HLk.out];exact hlp) (by rw [<-HCv.out];exact hc0') (by rw [<-HCv.out, <-HCa.out, <-HLk.out];exact hce);rw [HWL.out] at hrx;have HRX:=hide hrx;have HAD:=hide (ZdV _ _ (h v) (h a) we (by omega) (by omega) (Zch HRV0.out) (Zch HRW.out));have hceb:(ca+lk==cv)=true:=by simpa using hce
                   have hcln:¬ca+lk<cv:=hcl;have HCE:=hide hce;clear hrx KEEP hce HSe
                   go_wp2_with fail
                   refine HAD.out.mono ?_;rintro e w7 ⟨x,rfl,hox,b7⟩;obtain⟨xa,xc,rfl⟩:=Zac hox;have S7:=HS0.out.below b7;have B7:Below w0.heap.size w0 w7:=HBW.out.trans (b7.mono HBW.out.size);have d7:=S7.hop (v:=v) (by omega);have f7:=Zae S7.hs;have S8:=hide (S7.setH v (Zaf hox HS0.out.size) (ZcF _ _));have B8:=hide (B7.setCell (p:=⟨b+1,v,none⟩) (by show w0.heap.size<=b+1;omega) (.slice xa (addL (h v) (h a)).length xc));have HU:=hide (show mixC L c a (v+1)=mixC L c a v from Zc3 HRX.out.2);clear S7 B7 hox b7 HAD;go_wp2;go_roundw
                   case rel=>exact ⟨v+1,_,by omega,by omega,by go_num,hide (by rw [HU.out,Zcj,HRX.out.1];exact S8.out),B8.out⟩
                   case measure=>simp [intOf];omega
                  ·have hrx:=ZdU (L:=L) (src:=s) (c:=c) (h:=h) (u:=a) (v:=v) (by rw [<-HCv.out];exact hc0') (by rw [<-HCv.out, <-HCa.out, <-HLk.out];omega);have HK:=hide (show SSt we g b o (fun x=>F x||x==a) (mixC L c a (v+1)) (mixH L s c h a (v+1)) hw by rw [Zc3 hrx.2,ZfG hrx.1];exact HS0.out);have hceb:(ca+lk==cv)=false:=by simpa using hce
                   clear hrx KEEP;go_wp2;go_roundw
                   case rel=>exact ⟨v+1,hw,by omega,by omega,by go_num,HK,HBW.out⟩
                   case measure=>simp [intOf];omega
              ·have HK:=hide (KEEP.out (by
                have h1:=HFd.out;have h2:F v=true\/v=a:=by
                 cases e:F v with
                 | true=>exact .inl rfl
                 | false=>rw [e] at h1;simp at h1;exact .inr h1
                rcases h2 with h2 | h2
                ·exact Zfb (HA.out.inv.fnode v h2).2 (HA.out.inv.mono v a h2 HFa.out hca)
                ·subst h2;exact Zfb hca (Int.le_refl _)))
               clear KEEP HSe;go_wp2;go_roundw
               case rel=>exact ⟨v+1,hw,by omega,by omega,by go_num,HK,hne⟩
               case measure=>simp [intOf];omega
            ·have hv6:¬(v:Int)<=6:=by omega
             have hvv:v=7:=by omega
             subst hvv;have S9:=HSe.out;rw [Zmn HLK.out,Zmp HLK.out] at S9;have HS9:=hide S9;clear S9;go_wp2;go_roundw
             case rel=>exact ⟨r+1,_,_,_,_,by omega,by omega,by go_num,HS9,HAN,hne⟩
             case measure=>simp [intOf];omega
       ·have hr6:¬(r:Int)<=6:=by omega
        have hrr:r=7:=by omega
        subst hrr;have hfin:=HA.out.fin;have HW5:=hide (FIN.out c h hfin.1);have HF5:=hide hfin.2;have BWB:Below w.heap.size w wb:=BW0.trans (hnx.mono (by omega));have WOB:=hide ((WO.out.below hnx (YA _)).wide (YA _) hnx.size);clear hfin HA FIN WO hnx;go_wp2
        go_loopw [22,7] (fun i o' wr=>∃ (v:Nat) (qs:List WP) (u:Value),1<=v/\v<=7/\i=.int .i64 (v:Int)/\o'=u/\Hid (Zaj qs=Zcc c h (v-1))/\Hid (WaysOwn wr w.heap.size wr.heap.size u qs)/\Hid (SSt wr g b o F c h hv)/\Below w.heap.size w wr) (fun i _ _=>8-(intOf i).toNat)
        case atStart=>exact ⟨1,[],_,by omega,by omega,rfl,rfl,hide rfl,WOB,HS,BWB⟩
        case round=>
         rename World=>wf
         obtain⟨v,qs,u,hv1,hv7,rfl,rfl,HQ,HWO,HSf,hnf⟩:=hrel;obtain⟨ua2,uc2,rfl⟩:=Zac HWO.out.row;clear HS WOB BWB;by_cases hvl:v<7
         ·have hv6:(v:Int)<=6:=by omega
          have hvi:(0:Int)<=(v:Int):=by omega
          have hvj:(v:Int)<7:=by omega
          have dd:=HSf.out.done (v:=v) (by omega);cases hF:F v with
          | false=>
           rw [hF] at dd;have HQ2:=hide (show Zaj qs=Zcc c h (v+1-1) by
            rw [Nat.add_sub_cancel,Zfr c h hv1,if_neg (fun hc=>by have:=(HF5.out v).2 hc;rw [hF] at this;cases this),List.append_nil];exact HQ.out)
           go_wp2;go_roundw
           case rel=>exact ⟨v+1,qs,_,by omega,by omega,by go_num,rfl,HQ2,HWO,HSf,hnf⟩
           case measure=>simp [intOf];omega
          | true=>
           rw [hF] at dd;have hc0:=(HF5.out v).1 hF;have hql:qs.length<=6:=by
            have h1:=congrArg List.length HQ.out;have h2:=Zl6 c h (v-1);simp only [Zaj,List.length_map] at h1;omega
           go_wp2;refine wp_region_noPanic ?_;have SQ:SSt wf.drew g b o F c h hv:=HSf.out.below ⟨rfl,rfl,rfl,YA _,fun _ _=>rfl⟩;have d1:=SQ.cost (v:=v) hv1 (by omega);have d2:=SQ.hop (v:=v) (by omega);have RV:=SQ.rows v;have hlv:=SQ.short v;obtain⟨pv,qv,epv⟩:=Zac RV;rw [epv] at d2 RV;have WQ:WaysOwn wf.drew w.heap.size wf.drew.heap.size (.slice ua2 qs.length uc2) qs:=HWO.out.keep (fun _ _ _ _=>rfl);refine Zag (S:=fun W=>W.cell? ⟨b,v,none⟩=some (.int .i64 (c v))/\W.cell? ⟨b+1,v,none⟩=some (.slice pv (h v).length qv)) (by kernel_rfl) 16 rfl ⟨d1,d2⟩ ?_;intro ops hops _;refine Zsr _ _ _ _ _ _ _ _ _ _ _ _ _ _ _ _ _ _ _ _ _ _ _ _ _ _ _ _ _ _ _ _ _ _ _ _ _ _ _ _ _ _ _ _ _ _ _ _ _ _ _ _ _ _ _ _ _ _ _ _ _ _ _ _ _ _ _ _ _ _ _ _ _ _ _ _ _ _ _ _ _ _ _ _ _ _ _ _ _ _ _ _ _ _ _ _ _ _ _ _ _ _ _ _ _ _ _ _ _ _ _ _ _ _ _ _ _ _ _ _ _ _ _ _ _ _ _ _ _ _ _ _ _ _ _ _ _ _ _ _ _ _ _ _ _ _ _ _ _ _ _ _ _ _ _ _ _ _ _ _ _ _ _ _ _ _ _ _ _ _ _ _ _ _ _ _ _ _ _ _ _ _ _ _ _ _ _ _ _ _ _ _ _ wf.drew w.heap.size b v (c v) (h v) pv qv ua2 uc2 qs _ _ _ ops hops (fun _ _ _ _ h=>h) (by omega) hlv hql hnf.size SQ.cs SQ.hs d1 d2 (Zaf RV (Nat.zero_le _)) WQ ?_;intro W4 xa xc na nc NN ow k4 B4;refine NoPanic.normal ?_;have HQ2:=hide (show Zaj (qs++[(⟨(v:Int),c v,h v⟩,.slice na (h v).length nc)])=Zcc c h (v+1-1) by
            rw [Nat.add_sub_cancel,Zfr c h hv1,if_pos hc0, <-HQ.out];simp [Zaj])
           have S4:=hide (SQ.grow WQ.row k4);have OW4:=hide ow;have B5:Below w.heap.size w W4:=(drewB hnf).trans B4;clear ow k4 B4 hops ops d1 d2 RV WQ SQ HSf HWO;go_wp2;go_roundw
           case rel=>exact ⟨v+1,_,_,by omega,by omega,by go_num,rfl,HQ2,OW4,S4,B5⟩
           case measure=>simp [intOf];omega
         ·have hv6:¬(v:Int)<=6:=by omega
          have hvv:v=7:=by omega
          subst hvv;have HEND:=hide (show ZaX (fsts ps) area (s:Int) (Zaj qs) by rw [HQ.out];exact HW5.out);go_wp2;go_ret;exact⟨_,rfl,qs,HEND.out,HWO.out,hnf⟩
theorem bdrM (n:Nat)(w:World):Below w.heap.size w (w.drewN n):=⟨rfl,rfl,rfl,YA _,fun _ _=>rfl⟩
theorem bdr1 (w:World):Below w.heap.size w w.drew:=⟨rfl,rfl,rfl,YA _,fun _ _=>rfl⟩
def ZjL (W:World)(lo z:Nat)(u:Value)(n:Nat)(q:Nat->Nat)(bp:Nat->Option Nat)(wd:Nat->WayD)(wv:Nat->Value)(t:Nat)(x:WayD)(v:Value)(k:Nat)(W':World):Prop:=
 Below lo W W'/\(((bp t=none\/∃ kn,bp t=some kn/\x.cost<(wd kn).cost)/\∃ u' q',FS W' lo z u' (n+1) q' (upd bp t (some k)) (upd wd k x) (upd wv k v)/\Shuf (fun y=>if y=n then k else q y) q' (n+1))
  \/ (∃ kn vy,bp t=some kn/\¬x.cost<(wd kn).cost/\FS W' lo z u n q bp (upd wd kn (togI (wd kn) x)) (upd wv kn vy)))
theorem Zj8 (W:World)(lo z:Nat)(u:Value)(n:Nat)(q:Nat->Nat)(bp:Nat->Option Nat)(wd:Nat->WayD)(wv:Nat->Value)(t:Nat)(x:WayD)(v:Value)(s:FS W lo z u n q bp wd wv)(hn:n<=500)(ht:1<=t/\t<=6)(hx:x.to=(t:Int))(hrow:W.ownsRow lo 3 1 v x.hops.length (flat intE x.hops))(hxl:x.hops.length<=6)
  (hfr:∀ v' k' b,bp v'=some k'->(wv k').ownBlock=some b->v.ownBlock≠some b) (hjl:∀ kn,bp t=some kn->¬x.cost<(wd kn).cost->(togI (wd kn) x).hops.length<=6/\(togI (wd kn) x).cost=(wd kn).cost/\(togI (wd kn) x).to=(wd kn).to):
  Calls Tryz.prog 113 #[.pointer (some ⟨z,0,none⟩),.agg (wayC x v)] W fun e W'=>e=.returned (.tuple #[])/\ZjL W lo z u n q bp wd wv t x v W.heap.size W':=by
 obtain⟨xa,xc,rfl⟩:=Zac hrow;have hlo:=s.size;have BA:Below W.heap.size W (W.alloc (.cells #[.int .i64 (t:Int),.int .i64 x.cost,.slice xa x.hops.length xc] 108)):=(YAC _ _).alloc (YA _) _;have hkn:=YAE W (.cells #[.int .i64 (t:Int),.int .i64 x.cost,.slice xa x.hops.length xc] 108);obtain⟨W1,hW1⟩:∃ V,V=W.alloc (.cells #[.int .i64 (t:Int),.int .i64 x.cost,.slice xa x.hops.length xc] 108):=⟨_,rfl⟩;rw [<-hW1] at BA hkn;have s1:=s.below BA;have hrow1:=Zad hrow BA (YA _);have hqk:∀ i,i<n->q i≠W.heap.size:=fun i hi e=>by have:=Zab (s.hb.hq.way i hi);omega
 have hbk:∀ v,bp v≠some W.heap.size:=fun v e=>by have:=Zab (s.way v _ e).1;omega
 have hsz1:=BA.size;obtain⟨P,hP⟩:∃ P,P=ZjL W lo z u n q bp wd wv t x (.slice xa x.hops.length xc) W.heap.size:=⟨_,rfl⟩;rw [<-hP];obtain⟨k,hk⟩:∃ k,k=W.heap.size:=⟨_,rfl⟩;rw [<-hk] at hkn hqk hbk hP;have hlk:lo<=k:=by omega
 have hwc:wayC x (.slice xa x.hops.length xc)=#[.int .i64 (t:Int),.int .i64 x.cost,.slice xa x.hops.length xc]:=by unfold wayC;rw [hx]
 have hknc:W1.heap[k]? = some (.cells (wayC x (.slice xa x.hops.length xc)) 108):=by rw [hwc];exact hkn
 have HPC:=hide (show ∀ W2 W3,Below W1.heap.size W1 W2->Below (W2.setCell ⟨z,t,none⟩ (.pointer (some ⟨k,0,none⟩))).heap.size (W2.setCell ⟨z,t,none⟩ (.pointer (some ⟨k,0,none⟩))) W3->(bp t=none\/∃ kn,bp t=some kn/\x.cost<(wd kn).cost)->Calls Tryz.prog 140 #[.iface 185 (.pointer (some ⟨z,7,none⟩)),.iface 157 (.pointer (some ⟨k,0,none⟩))] W3 fun e W'=>e=.returned (.tuple #[])/\P W' by
  intro W2 W3 b2 b3 hcase;have s2:=s1.below b2;have hk2:=(b2.block _ (Zab hknc)).trans hknc;obtain⟨p1,p2,p3⟩:=s2.put ht x (.slice xa x.hops.length xc) hqk hk2;have hlo3:lo<=W3.heap.size:=by have h1:=b3.size;have h2:=b2.size;simp at h1;omega
  refine (Zkb W3 lo z n _ u q _ _ k (p1.below b3) hlo3 (by omega) rfl s.lz ((b3.block _ (Zab p2)).trans p2) ⟨xa,x.hops.length,xc,Zau _ _ _⟩ ?_).mono ?_
  ·intro i h0 hi;have h1:=ZdF h0;show (upd wd k x (q (par i))).cost<=(upd wd k x (q i)).cost;rw [Zao _ _ (hqk i hi),Zao _ _ (hqk _ (by omega))];exact s.hp i h0 hi
  ·rintro e W' ⟨u',q',rfl,hi,hsh,hb',f'⟩;rw [Zg8] at hb';have fs:=s2.pushed ht hx hxl hk2 hlk hbk (Zad hrow1 b2 (YA _)) hfr (p3.trans (FK.of_below b3 (by have h2:=b2.size;simp;omega))) f' hb' hi;refine⟨rfl,?_⟩;rw [hP];exact⟨((BA.mono hlo).trans (b2.mono (by omega))).trans ((p3.trans (FK.of_below b3 (by have h2:=b2.size;simp;omega))).trans f').below,.inl ⟨hcase,u',q',fs,hsh⟩⟩)
 have ka0:=Zaa hkn 0;have ka1:=Zaa hkn 1;have ka2:=Zaa hkn 2;simp at ka0 ka1 ka2;have kz:=s1.known ht;have lk1:=Zab hkn;have lz1:=Zab s1.hb.box;have fz1:=Zae s1.hb.box;have hti:(0:Int)<=(t:Int):=by omega
 have htj:(t:Int)<7:=by omega
 cases hbt:bp t with
 | none=>
  rw [hbt] at kz;unfold ptrO at kz;have HPC:=hide (fun W2 W3 a b=>HPC.out W2 W3 a b (.inl hbt));rw [hwc];clear hbt hP hjl s s1 hrow hrow1 hfr hxl hx hwc hknc hkn
  go_enter Tryz.func113,Tryz.ntmps113
  go_wp2;rw [<-hW1, <-hk];clear hW1 hk
  go_quiet (fail)
  have B2:=bdrM nq W1;have ka0:(W1.drewN nq).cell? ⟨k,0,none⟩=some (.int .i64 (t:Int)):=ka0;have kz:(W1.drewN nq).cell? ⟨z,t,none⟩=some (.pointer none):=kz;have fz1:∀ j,(W1.drewN nq).frozen? ⟨z,j,none⟩=false:=fz1;generalize W1.drewN nq=W2 at *;go_wp2
  go_quiet (fail)
  have B3:=B2.trans ((bdrM nq W2).mono B2.size);have ka0:(W2.drewN nq).cell? ⟨k,0,none⟩=some (.int .i64 (t:Int)):=ka0;have kz:(W2.drewN nq).cell? ⟨z,t,none⟩=some (.pointer none):=kz;have fz1:∀ j,(W2.drewN nq).frozen? ⟨z,j,none⟩=false:=fz1;generalize W2.drewN nq=W3 at *;have ft:=fz1 t;go_wp2
  go_region
  go_wp2_with fail
  refine (HPC.out W3 _ B3 (bdr1 _)).mono ?_;rintro e w9 ⟨rfl,hPP⟩;have HPP:=hide hPP;clear hPP;go_wp2
  go_returns
  exact⟨rfl,HPP.out⟩
 | some kn=>
  rw [hbt] at kz;unfold ptrO at kz;obtain⟨y,hy⟩:∃ y,y=wd kn:=⟨_,rfl⟩;have hway1:=(s1.way t kn hbt).1;have hrowk:=s1.row t kn hbt;obtain⟨ya,yc,hyv⟩:=Zac hrowk;rw [hyv, <-hy] at hway1;rw [hyv, <-hy] at hrowk;have hyl:y.hops.length<=6:=by rw [hy];exact s1.short t kn hbt
  have hkl:=(s1.way t kn hbt).2;have ln1:=Zab hway1;have hkk:kn≠k:=fun e=>hbk t (by rw [hbt,e]);have kb0:=Zaa hway1 0;have kb1:=Zaa hway1 1;have kb2:=Zaa hway1 2;simp [wayC] at kb0 kb1 kb2;have HBT:=hide (fun W=>Zcs (.slice xa x.hops.length xc) (.slice ya y.hops.length yc) x y W);rw [hwc] at HBT;unfold wayC Zbr at HBT;have HTG:=hide (fun V (hb:Below W1.heap.size W1 V)=>Zmi y x (.slice ya y.hops.length yc) (.slice xa x.hops.length xc) lo lo V (Zad hrowk hb (YA _)) (Zad hrow1 hb (YA _)) (by omega) (by omega));rw [hwc] at HTG;obtain⟨r,hr⟩:∃ r,r=togI y x:=⟨_,rfl⟩;rw [<-hr] at HTG;unfold wayC at HTG;have HJN:=hide (show ¬x.cost<y.cost->∀ W2 V va vc,Below W1.heap.size W1 V->Below V.heap.size V W2->W2.ownsRow V.heap.size 3 1 (.slice va r.hops.length vc) r.hops.length (flat intE r.hops)->P (((W2.setCell ⟨kn,0,none⟩ (.int .i64 r.to)).setCell ⟨kn,1,none⟩ (.int .i64 r.cost)).setCell ⟨kn,2,none⟩ (.slice va r.hops.length vc)) by
   intro hnc W2 V va vc hbV hb2 ho;have hj:=hjl kn hbt (by rw [<-hy];exact hnc);rw [<-hy, <-hr] at hj;have hbW2:Below W1.heap.size W1 W2:=hbV.trans (hb2.mono hbV.size);have fs:=s1.joined (y:=r) (vy:=.slice va r.hops.length vc) hbt (by rw [hj.2.1,hy]) (by rw [hj.2.2,hy]) hj.1 hbW2 hbV.size ho;rw [hP];refine⟨((BA.mono hlo).trans (hbW2.mono (by omega))).trans ⟨rfl,rfl,rfl,by simp,fun j hj'=>by
    have G:=Za2 W2 kn r (.slice va r.hops.length vc);exact G.block j (by have:=hbW2.size;omega) (by simp;omega)⟩,.inr ⟨kn,.slice va r.hops.length vc,hbt,by rw [<-hy];exact hnc,?_⟩⟩
   rw [<-hy, <-hr];exact fs)
  have HPC:=hide (fun (hc:x.cost<y.cost) W2 W3 a b=>HPC.out W2 W3 a b (.inr ⟨kn,hbt,by rw [<-hy];exact hc⟩));rw [hwc];have HWY:=hide hway1;clear hbt hP hjl s s1 hrow hrow1 hfr hxl hx hwc hknc hkn hy hr hyv hrowk hway1;have hS1:W1.cell? ⟨k,0,none⟩=some (.int .i64 (t:Int))/\W1.cell? ⟨k,1,none⟩=some (.int .i64 x.cost)/\W1.cell? ⟨k,2,none⟩=some (.slice xa x.hops.length xc)/\W1.cell? ⟨kn,0,none⟩=some (.int .i64 y.to)/\W1.cell? ⟨kn,1,none⟩=some (.int .i64 y.cost)/\W1.cell? ⟨kn,2,none⟩=some (.slice ya y.hops.length yc):=⟨ka0,ka1,ka2,kb0,kb1,kb2⟩;clear ka0 ka1 ka2 kb0 kb1 kb2;have ka0:=hS1.1
  go_enter Tryz.func113,Tryz.ntmps113
  go_wp2;rw [<-hW1, <-hk];clear hW1 hk
  go_quiet (fail)
  have B2:=bdrM nq W1;have hS2:(W1.drewN nq).cell? ⟨k,0,none⟩=some (.int .i64 (t:Int))/\(W1.drewN nq).cell? ⟨k,1,none⟩=some (.int .i64 x.cost)/\(W1.drewN nq).cell? ⟨k,2,none⟩=some (.slice xa x.hops.length xc)/\(W1.drewN nq).cell? ⟨kn,0,none⟩=some (.int .i64 y.to)/\(W1.drewN nq).cell? ⟨kn,1,none⟩=some (.int .i64 y.cost)/\(W1.drewN nq).cell? ⟨kn,2,none⟩=some (.slice ya y.hops.length yc):=hS1;have kz:(W1.drewN nq).cell? ⟨z,t,none⟩=some (.pointer (some ⟨kn,0,none⟩)):=kz;have fz1:∀ j,(W1.drewN nq).frozen? ⟨z,j,none⟩=false:=fz1;have lk2:k<(W1.drewN nq).heap.size:=lk1;have ln2:kn<(W1.drewN nq).heap.size:=ln1;have lz2:z<(W1.drewN nq).heap.size:=lz1;clear ka0 hS1;generalize W1.drewN nq=W2 at *;go_wp2;refine wp_region_noPanic ?_;have hS0:W2.drew.cell? ⟨k,0,none⟩=some (.int .i64 (t:Int))/\W2.drew.cell? ⟨k,1,none⟩=some (.int .i64 x.cost)/\W2.drew.cell? ⟨k,2,none⟩=some (.slice xa x.hops.length xc)/\W2.drew.cell? ⟨kn,0,none⟩=some (.int .i64 y.to)/\W2.drew.cell? ⟨kn,1,none⟩=some (.int .i64 y.cost)/\W2.drew.cell? ⟨kn,2,none⟩=some (.slice ya y.hops.length yc):=hS2;have lk3:k<W2.drew.heap.size:=lk2;have ln3:kn<W2.drew.heap.size:=ln2;refine Zag (S:=fun W=>W.cell? ⟨k,0,none⟩=some (.int .i64 (t:Int))/\W.cell? ⟨k,1,none⟩=some (.int .i64 x.cost)/\W.cell? ⟨k,2,none⟩=some (.slice xa x.hops.length xc)/\W.cell? ⟨kn,0,none⟩=some (.int .i64 y.to)/\W.cell? ⟨kn,1,none⟩=some (.int .i64 y.cost)/\W.cell? ⟨kn,2,none⟩=some (.slice ya y.hops.length yc)) (by kernel_rfl) 9 rfl hS0 ?_;intro ops hops _;show wpAnyH Tryz.prog .any ops _ _ 9 #[false,false,false,false,false,false,false,false,false] _ W2.drew
  iterate 7
   refine ZhD 9 ?_ ?_ ?_ (by rw [hops.out];kernel_rfl) ?_ ?_ (by assumption) ?_
   rotate_left 2
   ·rw [hops.out];simp only [getS,Nat.reduceSub,Nat.reduceAdd];rfl
   ·intro W hW;obtain⟨k1,k2,k3,k4,k5,k6⟩:=hW;go_simp <;> with_reducible rfl
   ·exact fun _ _ _=>id
   try simp only [putS]
  refine TC 7 ?_;intro K hK;go_simp;refine (HBT.out _).mono ?_;rintro e w4 ⟨rfl,b4⟩;have hK4:w4.cell? ⟨k,0,none⟩=some (.int .i64 (t:Int))/\w4.cell? ⟨k,1,none⟩=some (.int .i64 x.cost)/\w4.cell? ⟨k,2,none⟩=some (.slice xa x.hops.length xc)/\w4.cell? ⟨kn,0,none⟩=some (.int .i64 y.to)/\w4.cell? ⟨kn,1,none⟩=some (.int .i64 y.cost)/\w4.cell? ⟨kn,2,none⟩=some (.slice ya y.hops.length yc):=by
   refine⟨?_,?_,?_,?_,?_,?_⟩ <;> (rw [b4.cell (by first | exact lk3 | exact ln3)];first | exact hS0.1 | exact hS0.2.1 | exact hS0.2.2.1 | exact hS0.2.2.2.1 | exact hS0.2.2.2.2.1 | exact hS0.2.2.2.2.2)
  refine hK.out _ _ hK4 (fun _=>?_);clear hK K
  try simp only [putS]
  refine Zbs 8 ?_ ?_ ?_ (by rw [hops.out];kernel_rfl) ?_ ?_ (by assumption) ?_
  rotate_left 2
  ·rw [hops.out];simp only [getS];rfl
  ·intro W hW;obtain⟨k1,k2,k3,k4,k5,k6⟩:=hW;go_simp <;> with_reducible rfl
  ·exact fun _ _ _=>id
  try simp only [putS]
  refine wpAnyH_done (by rw [hops.out];kernel_rfl) ?_ _;clear hops ops;refine NoPanic.normal ?_;have B4:Below W1.heap.size W1 w4:=(B2.trans ((bdr1 W2).mono B2.size)).trans (b4.mono B2.size);by_cases hcc:x.cost<y.cost
  ·rw [YAT hcc];have kz4:w4.cell? ⟨z,t,none⟩=some (.pointer (some ⟨kn,0,none⟩)):=(b4.cell lz2).trans kz;have fz4:w4.frozen? ⟨z,t,none⟩=false:=(b4.frozen lz2).trans (fz1 t);have ka4:=hK4.1;have HPC:=hide (HPC.out hcc);clear hK4 hS0 hS2 HJN HTG HBT b4;go_wp2
   go_region
   go_wp2_with fail
   refine (HPC.out w4 _ B4 (bdr1 _)).mono ?_;rintro e w9 ⟨rfl,hPP⟩;have HPP:=hide hPP;clear hPP;go_wp2
   go_returns
   exact⟨rfl,HPP.out⟩
  ·rw [YAe hcc];have HJN:=hide (HJN.out (by omega));have hkn4:=(B4.block _ ln1).trans HWY.out;have hB5d:Below W1.heap.size W1 w4.drew:=B4.trans ((bdr1 w4).mono B4.size);have ln5d:kn<w4.drew.heap.size:=Zab hkn4;have hkn5:w4.drew.heap[kn]? = some (.cells (wayC y (.slice ya y.hops.length yc)) 108):=hkn4;unfold wayC at hkn5;clear hS0 hS2 HPC HBT b4 hkn4;go_wp2;refine wp_region_noPanic ?_;refine Zag (S:=fun _=>True) (by kernel_rfl) 8 rfl trivial ?_;intro ops hops _;have a0:w4.drew.cell? ⟨k,0,none⟩=some (.int .i64 (t:Int)):=hK4.1;have a1:w4.drew.cell? ⟨k,1,none⟩=some (.int .i64 x.cost):=hK4.2.1;have a2:w4.drew.cell? ⟨k,2,none⟩=some (.slice xa x.hops.length xc):=hK4.2.2.1;have a3:w4.drew.cell? ⟨kn,0,none⟩=some (.int .i64 y.to):=hK4.2.2.2.1;have a4:w4.drew.cell? ⟨kn,1,none⟩=some (.int .i64 y.cost):=hK4.2.2.2.2.1;have a5:w4.drew.cell? ⟨kn,2,none⟩=some (.slice ya y.hops.length yc):=hK4.2.2.2.2.2;show wpAnyH Tryz.prog .any ops _ (fun _=>True) 8 #[false,false,false,false,false,false,false,false] _ w4.drew
   iterate 3
    refine ZhD 8 ?_ ?_ ?_ (by rw [hops.out];kernel_rfl) ?_ ?_ trivial ?_
    rotate_left 2
    ·rw [hops.out];simp only [getS,Nat.reduceSub,Nat.reduceAdd];rfl
    ·intro W _;go_simp <;> with_reducible rfl
    ·exact fun _ _ _=>id
    try simp only [putS]
   refine wpAnyH_ready (rs:=[3,4]) (by rw [hops.out];kernel_rfl) (by simp) ?_;refine AllReadyH.cons (o:=?_) ?_ (fun K hK=>?_) ?_
   rotate_left 1
   ·rw [hops.out];simp only [getS];rfl
   ·rw [if_pos (by rfl)];go_simp;refine hK.out _ _ trivial (fun _=>?_);clear hK K
    try simp only [putS]
    refine wpAnyH_ready (rs:=[4]) (by rw [hops.out];kernel_rfl) (by simp) ?_;refine AllReadyH.cons (o:=?_) ?_ (fun K hK=>?_) ?_
    rotate_left 1
    ·rw [hops.out];simp only [getS];rfl
    ·rw [if_pos (by rfl)];go_simp;refine hK.out _ _ trivial (fun _=>?_);clear hK K
     try simp only [putS]
     refine TC 5 ?_;intro K hK;go_simp;refine (HTG.out w4.drew hB5d).mono ?_;rintro e w6 ⟨vy,rfl,hoy,b6⟩;obtain⟨va,vc,rfl⟩:=Zac hoy;refine hK.out _ _ trivial (fun _=>?_);clear hK K
     try simp only [putS]
     refine Zbs 6 ?_ ?_ ?_ (by rw [hops.out];kernel_rfl) ?_ ?_ trivial ?_
     rotate_left 2
     ·rw [hops.out];simp only [getS];rfl
     ·intro W _;go_simp <;> with_reducible rfl
     ·exact fun _ _ _=>id
     try simp only [putS]
     have hz6:=(b6.block _ ln5d).trans hkn5;have u0:=Zaa hz6 0;have u1:=Zaa hz6 1;have u2:=Zaa hz6 2;simp at u0 u1 u2;have fu:=Zae hz6;have FIN:=hide (HJN.out w6 w4.drew va vc hB5d b6 hoy);clear hz6 hoy b6;refine TC 7 ?_;intro K hK;go_simp;refine hK.out _ _ trivial (fun _=>?_);clear hK K
     try simp only [putS]
     refine wpAnyH_done (by rw [hops.out];kernel_rfl) ?_ _;clear hops ops;refine NoPanic.normal ?_;go_wp2
     go_returns
     exact⟨rfl,FIN.out⟩
    exact AllReadyH.nil
   refine AllReadyH.cons (o:=?_) ?_ (fun K hK=>?_) ?_
   rotate_left 1
   ·rw [hops.out];simp only [getS];rfl
   ·rw [if_pos (by rfl)];go_simp;refine hK.out _ _ trivial (fun _=>?_);clear hK K
    try simp only [putS]
    refine wpAnyH_ready (rs:=[3]) (by rw [hops.out];kernel_rfl) (by simp) ?_;refine AllReadyH.cons (o:=?_) ?_ (fun K hK=>?_) ?_
    rotate_left 1
    ·rw [hops.out];simp only [getS];rfl
    ·rw [if_pos (by rfl)];go_simp;refine hK.out _ _ trivial (fun _=>?_);clear hK K
     try simp only [putS]
     refine TC 5 ?_;intro K hK;go_simp;refine (HTG.out w4.drew hB5d).mono ?_;rintro e w6 ⟨vy,rfl,hoy,b6⟩;obtain⟨va,vc,rfl⟩:=Zac hoy;refine hK.out _ _ trivial (fun _=>?_);clear hK K
     try simp only [putS]
     refine Zbs 6 ?_ ?_ ?_ (by rw [hops.out];kernel_rfl) ?_ ?_ trivial ?_
     rotate_left 2
     ·rw [hops.out];simp only [getS];rfl
     ·intro W _;go_simp <;> with_reducible rfl
     ·exact fun _ _ _=>id
     try simp only [putS]
     have hz6:=(b6.block _ ln5d).trans hkn5;have u0:=Zaa hz6 0;have u1:=Zaa hz6 1;have u2:=Zaa hz6 2;simp at u0 u1 u2;have fu:=Zae hz6;have FIN:=hide (HJN.out w6 w4.drew va vc hB5d b6 hoy);clear hz6 hoy b6;refine TC 7 ?_;intro K hK;go_simp;refine hK.out _ _ trivial (fun _=>?_);clear hK K
     try simp only [putS]
     refine wpAnyH_done (by rw [hops.out];kernel_rfl) ?_ _;clear hops ops;refine NoPanic.normal ?_;go_wp2
     go_returns
     exact⟨rfl,FIN.out⟩
    exact AllReadyH.nil
   exact AllReadyH.nil
theorem Zgq {B:Nat}{w:World}(h:Below B w W)(hB:w.heap.size<=B)(row:Option Nat):w.grownBy W row:=⟨h.os,h.tape,h.output,h.size,fun k hk _=>h.block k (by omega)⟩
theorem Zlk (lo i vb:Nat)(v:Value)(ps:List RP)(r:RP)(w:World)(hv:RecsOwn w lo w.heap.size v ps)(hlo:lo<=w.heap.size)(hi:i<=ps.length)(hn:ps.length<=1048576)(hvb:w.heap[vb]? = some (.cells (encP r).toArray 37 (0,0)))(hne:some vb≠v.ownBlock)(hr1:∀ u∈encP r,u.oneCell'=true):
  Calls Tryz.prog 79 #[v,.int .i64 (i:Int),.slice (some ⟨vb,0,none⟩) 1 1] w fun e w'=>∃ v',e=.returned v'/\w'.ownsRow lo 37 8 v' (ps.length+1) (flat encP (ps.take i++[r]++ps.drop i))/\w.grownBy w' v.ownBlock/\(v'.ownBlock=v.ownBlock\/v'.ownBlock=some w.heap.size):=by
 by_cases he:i=ps.length
 ·rw [he];exact Zqs lo ps.length 1 vb v ps r w rfl rfl hlo hn hv.row hvb hr1
 ·have hone:∀ p∈ps,∃ a k c,p.2=.slice a k c:=fun p hp=>by
   obtain⟨a,c,e⟩:=Zac (hv.nears p hp).1;exact⟨a,_,c,e⟩
  rcases hv.row.2 with ⟨_,h0⟩ | ⟨g,cap,cur,hve,_⟩
  ·omega
  ·subst hve;have hne2:vb≠g:=fun e=>hne (by rw [e];rfl);by_cases hroom:ps.length+1<=cap
   ·exact Zne lo g cap ps.length 1 i vb ps r w rfl rfl hv.row (by omega) hroom hvb hne2 hone hr1
   ·exact ZoH lo g cap ps.length 1 i vb ps r w rfl rfl hlo hn hv.row (by omega) (by omega) hvb hone hr1
theorem ZoL (v:Value)(ps:List RP)(lo:Nat)(r:RP)(w:World)(hv:RecsOwn w lo w.heap.size v ps)(hlo:lo<=w.heap.size)(hn:tot ps<=1048576)(hasc:Asc (fsts ps))(hr:ZaF w lo w.heap.size r)(hap:∀ p∈ps,ZeH p r):
  Calls Tryz.prog 45 #[v,.agg (recC r.1 r.2)] w fun e w'=>∃ x qs,e=.returned x/\fsts qs=putD (fsts ps) r.1/\RecsOwn w' lo w'.heap.size x qs/\(∀ k,x.ownBlock=some k->v.ownBlock=some k\/w.heap.size<=k)/\w.grownBy w' v.ownBlock:=by
 have hnl:=Zbj ps;have hfl:(fsts ps).length=ps.length:=by simp [fsts]
 obtain⟨a1,vc,hve⟩:=Zac hv.row;obtain⟨ra,rc,hrn⟩:=Zac hr.1;have BX:Below w.heap.size w (w.alloc (.cells #[.int .i64 r.1.area,.int .i64 r.1.kind,.int .i64 r.1.owner,.int .i64 r.1.key,.int .i64 r.1.seq,.slice ra r.1.near.length rc,.int .i64 r.1.cost,.bool r.1.far] 37)):=(YAC _ _).alloc (YA _) _;have hx:=YAE w (.cells #[.int .i64 r.1.area,.int .i64 r.1.kind,.int .i64 r.1.owner,.int .i64 r.1.key,.int .i64 r.1.seq,.slice ra r.1.near.length rc,.int .i64 r.1.cost,.bool r.1.far] 37);obtain⟨w0,hw0⟩:∃ w0,w0=w.alloc (.cells #[.int .i64 r.1.area,.int .i64 r.1.kind,.int .i64 r.1.owner,.int .i64 r.1.key,.int .i64 r.1.seq,.slice ra r.1.near.length rc,.int .i64 r.1.cost,.bool r.1.far] 37):=⟨_,rfl⟩;rw [<-hw0] at BX hx;have hs0:=Zab hx;have hv0:=hv.below BX (YA _);have hr0:=hr.keep (W':=w0) (fun k _ _ h3=>BX.block k h3);have HS:=Zip v ps w.heap.size r w0 hv0.in BX.size hn (hr0.wide (Nat.zero_le _) (YA _)) (by rw [<-hfl];exact ZiI hasc r.1);have d0:=Zaa hx 0;have d1:=Zaa hx 1;have d2:=Zaa hx 2;have d3:=Zaa hx 3;have d4:=Zaa hx 4;have d5:=Zaa hx 5;have d6:=Zaa hx 6;have d7:=Zaa hx 7;simp at d0 d1 d2 d3 d4 d5 d6 d7;have HV:=hide hv0;have HR:=hide hr0;have HA:=hide hasc;have HP:=hide hap;have H1:=hide hr;have HFL:=hide hfl;have HRN:=hide hrn;have HVE:=hide hve;unfold recC at *;rw [hrn] at HS |-;subst hve;have HSS:=hide HS;clear HS hv0 hr0 hasc hap hr hrn hv hfl
 go_enter Tryz.func45,Tryz.ntmps45
 go_wp2_with fail
 rw [<-hw0];clear hw0;refine HSS.out.mono ?_;rintro e w1 ⟨i,f,rfl,hil,q1,q2,q3,b1⟩;have b1s:=b1.size;have hx1:=(b1.block _ hs0).trans hx;have B1:Below w.heap.size w w1:=BX.trans (b1.mono BX.size);have hv1:=(HV.out.below b1 (by omega)).wide (YA _) (show w.heap.size<=w1.heap.size by omega);have hr1:=((HR.out).keep (W':=w1) (fun k _ _ h3=>b1.block k h3)).wide (YA _) (show w.heap.size<=w1.heap.size by omega);have Q1:=hide q1;have Q2:=hide q2;have Q3:=hide q3;clear q1 q2 q3 d0 d1 d2 d3 d4 d5 d6 d7 hx b1;have d0:=Zaa hx1 0;have d1:=Zaa hx1 1;have d2:=Zaa hx1 2;have d3:=Zaa hx1 3;have d4:=Zaa hx1 4;have d5:=Zaa hx1 5;have d6:=Zaa hx1 6;have d7:=Zaa hx1 7;simp at d0 d1 d2 d3 d4 d5 d6 d7;have hii:(0:Int)<=(i:Int):=by omega
 cases f with
 | true=>
  have hil2:i<ps.length:=by
   obtain⟨x,hx,_⟩:=Q3.out.1 rfl;have:=(YAD.1 hx).1;rw [HFL.out] at this;exact this
  have hij:(i:Int)<(ps.length:Int):=by omega
  rcases hv1.row.2 with ⟨_,h0⟩ | ⟨g,cap,cur,hve,_⟩
  ·omega
  ·cases hve;have hpr:r=(r.1,.slice ra r.1.near.length rc):=by rw [<-HRN.out]
   have hfin:=hv1.put (i:=i) rfl hr1 HP.out hil2;have hg:=ZeD w1 g (i*8) r;have hgl:=hv1.row.lt g rfl;have hB:=Zai (Zgq B1 (YA _) (some g)) hg;have hl:fsts (ps.set i r)=putD (fsts ps) r.1:=by
    obtain⟨x,hx,h0⟩:=Q3.out.1 rfl;obtain⟨hi2,ex⟩:=YAD.1 hx;rw [Zma,ZmE HA.out hi2 Q1.out (by rw [HFL.out];exact Q2.out) (by rw [ex];exact h0)]
   obtain⟨y0,f0⟩:=Zbe hv1.row (i*8) (by omega);obtain⟨y1,f1⟩:=Zbe hv1.row (i*8+1) (by omega);obtain⟨y2,f2⟩:=Zbe hv1.row (i*8+2) (by omega);obtain⟨y3,f3⟩:=Zbe hv1.row (i*8+3) (by omega);obtain⟨y4,f4⟩:=Zbe hv1.row (i*8+4) (by omega);obtain⟨y5,f5⟩:=Zbe hv1.row (i*8+5) (by omega);obtain⟨y6,f6⟩:=Zbe hv1.row (i*8+6) (by omega);obtain⟨y7,f7⟩:=Zbe hv1.row (i*8+7) (by omega);have fz:=fun j=>hv1.row.frozenAt j;have hne:g≠w.heap.size:=by
    intro e;have h5:=HV.out.top g rfl;omega
   rw [hpr] at hfin hB hl;have HF:=hide hfin;have HB:=hide hB;have HL:=hide hl;clear hfin hB hl hpr hg hv1 hr1;go_wp2;go_ret
   first
    | exact ⟨_,ps.set i (r.1,.slice ra r.1.near.length rc),rfl,HL.out,HF.out,fun k hk=>.inl hk,HB.out⟩
    | exact ⟨_,rfl,ps.set i (r.1,.slice ra r.1.near.length rc),HL.out,HF.out,fun k hk=>.inl hk,HB.out⟩
 | false=>
  have hl:fsts (ps.take i++[r]++ps.drop i)=putD (fsts ps) r.1:=by
   rw [Zl9,ZmD HA.out (by rw [HFL.out];exact hil) Q1.out (by rw [HFL.out];exact Q2.out) (fun h=>by have:=Q3.out.2 h;cases this)]
  have HL:=hide hl;clear hl;have BY:Below w1.heap.size w1 (w1.alloc (.cells #[.int .i64 r.1.area,.int .i64 r.1.kind,.int .i64 r.1.owner,.int .i64 r.1.key,.int .i64 r.1.seq,.slice ra r.1.near.length rc,.int .i64 r.1.cost,.bool r.1.far] 37)):=(YAC _ _).alloc (YA _) _;have hy:=YAE w1 (.cells #[.int .i64 r.1.area,.int .i64 r.1.kind,.int .i64 r.1.owner,.int .i64 r.1.key,.int .i64 r.1.seq,.slice ra r.1.near.length rc,.int .i64 r.1.cost,.bool r.1.far] 37);obtain⟨w2,hw2⟩:∃ w2,w2=w1.alloc (.cells #[.int .i64 r.1.area,.int .i64 r.1.kind,.int .i64 r.1.owner,.int .i64 r.1.key,.int .i64 r.1.seq,.slice ra r.1.near.length rc,.int .i64 r.1.cost,.bool r.1.far] 37):=⟨_,rfl⟩;rw [<-hw2] at BY hy;have hv2:=(hv1.below BY (YA _)).wide (YA _) BY.size;have hr2:=(hr1.keep (W':=w2) (fun k _ _ h3=>BY.block k h3)).wide (YA _) BY.size;have HI:=Zlk lo i w1.heap.size _ ps r w2 hv2 (by have:=BY.size;omega) hil (by omega) (by
   rw [hy];unfold encP;rw [HRN.out]) (fun e=>by
    have h6:=hv1.top _ e.symm;omega) (Zmu hr2)
  have HII:=hide HI;have HV2:=hide hv2;have HR2:=hide hr2;have B2:Below w.heap.size w w2:=B1.trans (BY.mono (by omega));have hb2:=BY.size;clear HI hv1 hr1 hv2 hr2
  go_wp2_with fail
  rw [<-hw2];clear hw2;refine HII.out.mono ?_;rintro e w3 ⟨x,rfl,hrow,hg,hblk⟩;have hfin:=HV2.out.ins HR2.out HP.out hil hrow hg;have hB:=Zai (Zgq B2 (YA _) _) hg;have hbk:∀ k,x.ownBlock=some k->(Value.slice a1 ps.length vc).ownBlock=some k\/w.heap.size<=k:=fun k hk=>by
   rcases hblk with h1 | h1
   ·exact .inl (by rw [<-h1];exact hk)
   ·right;rw [h1] at hk;cases hk;omega
  have HBK:=hide hbk;clear hbk hblk;obtain⟨xa,xc,rfl⟩:=Zac hrow;have HF:=hide hfin;have HB:=hide hB;clear hfin hB hrow hg;go_wp2;go_ret
  first
   | exact ⟨_,_,rfl,HL.out,HF.out,HBK.out,HB.out⟩
   | exact ⟨_,rfl,_,HL.out,HF.out,HBK.out,HB.out⟩
end Go.Proofs.YtikloccefmofdaaGreat
