/-
  Parts.
-/
import Derived.Test.YtikloccefmofdaaGreatFi37
namespace Go.Proofs.YtikloccefmofdaaGreat
open Go.RowKit
set_option linter.unusedSimpArgs false
set_option linter.unusedVariables false
set_option maxRecDepth 100000
set_option maxHeartbeats 8000000
theorem ZiZ {P:Program}{o:Oper}{ev:Operand->Value}{w:World}(ty:TypeId)(x:Operand)(ho:o.op=.load ty x)
  (g:Nat) (hx:ev x=.pointer (some ⟨g,0,none⟩)) (t:TypeId) (cs:Array Value) (fr:Nat × Nat) (d:TypeDesc) (hg:w.heap[g]? = some (.cells cs t fr))
  (hu:P.underlying ty=some d) (hd:(match d with | .struct _ | .array _ _=>true | _=>false)=true) (hi:(P.info? ty).map (·.size)=some cs.size):(execOp ev o).run P w=.ok (.value (.agg cs)) w:=by
 unfold execOp;simp only [ho,hx,Instr.loadAt,Instr.sureAddr,Sem.run_bind,Sem.run_pure,Result.andThen_ok,run_loadVar_row w g t ty cs fr d hg hu hd hi]
def backB (v c:Int)(q:RtD):Bool := !q.thing&&(q.to==v&&q.cost==c)
theorem ZnX {ps:List QP}{k:Nat}{p:QP}(f:QP->Bool)(h:ps[k]? = some p):(ps.take (k+1)).any f=((ps.take k).any f||f p):=by
 obtain⟨hk,e⟩:=YAD.1 h;rw [YAI hk,List.any_append,e];simp
theorem Zpe {w:World}{base size n:Nat}{e:TypeId}{v:Value}{xs:List Value}(h:w.ownsRow base e size v n xs):n<=maxLen:=by
 rcases h.2 with ⟨_,h0⟩ | ⟨g,cap,cur,hv,hg,hh,hnc,hcm,_⟩
 ·omega
 ·omega
theorem fnIdeals_walk (a:Option Addr)(len cap:Nat)(w:World)(hw:len<=1048576->Code w a len w.heap.size):
  Calls Tryz.prog 3 #[.slice a len cap] w fun e w'=>e=.returned (.bool true)/\Below w.heap.size w w':=by
 have HW:=hide hw;clear hw;by_cases hlen:len<=1048576
 case neg=>
  have HBIG:=hide (Zn8 a len cap);rw [YAT (show (1048576:Int)<(len:Int) by omega)] at HBIG
  go_enter Tryz.func3,Tryz.ntmps3
  go_wp2_with fail
  refine (HBIG.out _).mono ?_;rintro e w1 ⟨rfl,rfl⟩;go_wp2;go_ret;exact⟨rfl,YAC _ _⟩
 have HBIG:=hide (Zn8 a len cap);rw [YAe (show ¬(1048576:Int)<(len:Int) by omega)] at HBIG;have HCODE:=hide (HW.out hlen);clear HW
 go_enter Tryz.func3,Tryz.ntmps3
 go_wp2_with fail
 refine (HBIG.out _).mono ?_;rintro e w1 ⟨rfl,rfl⟩
 go_wp2_with fail
 refine (Zk6 a len cap _ HCODE.out).mono ?_;rintro e w1 ⟨x,v,y,z,ys,zs,rfl,hok,hnet,hbl,b1⟩;obtain⟨hy,hz,hyl,hzl⟩:=hbl.out;obtain⟨hn1,hn6,hl12,ht4,hto⟩:=ZfJ hok;obtain⟨n,ls,ts⟩:=x;obtain⟨v1,v2,rfl,h1,h2⟩:=hnet;simp only [] at hn1 hn6 hl12 ht4 hto h1 h2 hyl hzl;obtain⟨N,rfl⟩:∃ N:Nat,n=(N:Int):=⟨n.toNat,by omega⟩;obtain⟨a1,c1,rfl⟩:=Zac h1;obtain⟨a2,c2,rfl⟩:=h2.shape;obtain⟨a3,c3,rfl⟩:=hy.shape;obtain⟨a4,c4,rfl⟩:=hz.shape;obtain⟨W2,hW2⟩:∃ W2,W2=w1.alloc (.cells #[.int .i64 (N:Int),.slice a1 ls.length c1,.slice a2 ts.length c2] 27):=⟨_,rfl⟩;have BA:Below w1.heap.size w1 W2:=by rw [hW2];exact (YAC _ _).alloc (YA _) _
 have hx2:W2.heap[w1.heap.size]? = some (.cells #[.int .i64 (N:Int),.slice a1 ls.length c1,.slice a2 ts.length c2] 27):=by rw [hW2];exact YAE w1 _
 have HB2:=hide (b1.trans (BA.mono b1.size));have HX2:=hide hx2;have HI:=hide (show ZcN ⟨(N:Int),ls,ts⟩ ys zs=true by unfold ZcN;rw [hok];simp [hyl,hzl]);have HL:=hide (show Zfz ⟨(N:Int),ls,ts⟩ ys zs=ZcI ls ts ys zs N by unfold Zfz;rw [if_pos HI.out];simp);have HST:=hide (show Zax (ZcI ls ts ys zs N)=true from Ze1 hok);have HUP:=hide (show Zd0 zs (ZcI ls ts ys zs N) from ZkN ls ts ys zs N (fun t ht=>(hto t ht).1));have HII:=hide (Zhf (.slice a1 ls.length c1) (.slice a2 ts.length c2) (.slice a3 ys.length c3) (.slice a4 zs.length c4) ⟨(N:Int),ls,ts⟩ ys zs W2 (by simp only [];omega) (by simp only [];omega) (by omega) (by omega) (Zad h1 BA (YA _)) (Zav.then h2 BA) (Zav.then hy BA) (Zav.then hz BA));have HIS:=hide (fun W (hb:Below W2.heap.size W2 W)=>ZnF (.slice a1 ls.length c1) (.slice a2 ts.length c2) (.slice a3 ys.length c3) (.slice a4 zs.length c4) N ls ts ys zs W hok (by omega) (by omega) hl12 ht4 hto (Zav.then (Zav.then (Zam h1) BA) hb) (Zav.then (Zav.then h2 BA) hb) (Zav.then (Zav.then hy BA) hb) (Zav.then (Zav.then hz BA) hb) hyl (by omega));have HTR:=hide (fun (node:Int) W (hb:Below W2.heap.size W2 W)=>Znk (.slice a1 ls.length c1) (.slice a2 ts.length c2) (.slice a3 ys.length c3) (.slice a4 zs.length c4) ⟨(N:Int),ls,ts⟩ ys zs node W (by simp only [];omega) (by simp only [];omega) (by omega) (by omega) (Zad (Zad h1 BA (YA _)) hb (YA _)) (Zav.then (Zav.then h2 BA) hb) (Zav.then (Zav.then hy BA) hb) (Zav.then (Zav.then hz BA) hb));have HZ2:=hide (show Zbh W2 (.slice a4 zs.length c4) zs W2.heap.size from Zav.then hz BA);rw [HI.out,HL.out] at HII;simp only [] at HII HTR;have HN:=hide hzl;have HW2:=hide hW2;have hz6:zs.length<=6:=by omega
 have hN6:N<=6:=by omega
 have HNZ:=hide (show zs.length=N by omega);clear hW2 hx2 hok h1 h2 hy hz hyl hzl hbl b1 BA HBIG HCODE hto HL hn1 hn6
 go_wp2_with fail
 rw [<-HW2.out];refine HII.out.mono ?_;rintro e w3 ⟨o,qs,rfl,hqs,htq,ho,b3⟩;obtain⟨oa,oc,rfl⟩:=Zac ho.row;have hs3:=b3.size;have hx3:=(b3.block _ (Zab HX2.out)).trans HX2.out;have y0:=Zaa hx3 0;have y1:=Zaa hx3 1;have y2:=Zaa hx3 2;simp only [YAd,YAX,YAW] at y0 y1 y2;have HQ:=hide hqs;have hqn:qs.length<=2000:=YAK (Zbj qs) htq;have HO3:=hide ho.in;have HB3:=hide b3;clear hqs ho b3 hx3 HW2 HII
 go_wp2_with fail
 refine (HIS.out _ HB3.out).mono ?_;rintro e w4 ⟨o',qw,rfl,hqw,htw,ho',b4⟩;obtain⟨oa',oc',rfl⟩:=Zac ho'.row;have hs4:=b4.size;have HO4:=hide ((HO3.out.below b4 (YA _)).wide hs4);have HOW:=hide ho'.in;have HQW:=hide (show fsts qs=fsts qw by rw [HQ.out,hqw]);have HB4:=hide (HB3.out.trans (b4.mono hs3));clear hqw ho' b4 y0 y1 y2 HO3 HB3 HIS
 go_wp2_with fail
 refine (Zjs _ _ qs qw w4.heap.size w4 HO4.out HOW.out HQW.out (YA _) (by omega)).mono ?_;rintro e w5 ⟨rfl,b5⟩;have hs5:=b5.size;have HO5:=hide ((HO4.out.below b5 (YA _)).wide hs5);have HB5:=hide (HB4.out.trans (b5.mono HB4.out.size));have hs25:=HB5.out.size;clear b5 HO4 HB4 HOW HQW;go_wp2
 go_loopw [10] (fun i wr=>∃ k:Nat,k<=qs.length/\i=.int .i64 (k:Int)/\Below w5.heap.size w5 wr) (fun i _=>qs.length-(intOf i).toNat)
 case atStart=>exact ⟨0,by omega,rfl,YAC _ _⟩
 case round=>
  obtain⟨k,hk,rfl,ba⟩:=hrel;have hba:=ba.size;by_cases hlt:k<qs.length
  ·obtain ⟨p,hp⟩:∃ p,qs[k]? = some p:=⟨qs[k],YAA hlt⟩;obtain⟨b,off,cp,hve,hbb,d0,d1,d2,d3,d4,d5,d6,d7,hh⟩:=(HO5.out.below ba (YA _)).at.cells k p hp;cases hve;have hpm:p.1∈ZcI ls ts ys zs N:=by rw [<-HQ.out];exact List.mem_map_of_mem (YAG hp)
   obtain⟨hsq,m,hmo,hum⟩:=HUP.out p.1 hpm;rw [hsq] at d4;rw [hmo] at d2;have hml:m<zs.length:=by
    rcases Nat.lt_or_ge m zs.length with h | h
    ·exact h
    ·unfold upB at hum;rw [List.getElem?_eq_none h] at hum;cases hum
   have hub:zs[m]? = some true:=by
    unfold upB at hum;rw [YAA hml] at hum |-
    simpa using hum
   obtain⟨ug,uo,uc0,huv,hug,ucell⟩:=HZ2.out.cell m true hub;obtain⟨rfl,rfl⟩:a4=some ⟨ug,uo,none⟩/\c4=uc0:=by cases huv;exact⟨rfl,rfl⟩
   have u2:wr.cell? ⟨ug,uo+m,none⟩=some (.bool true):=by rw [(HB5.out.trans (ba.mono hs25)).cell (p:=⟨ug,uo+m,none⟩) hug];exact ucell
   have hki:(0:Int)<=(k:Int):=by omega
   have hkj:(k:Int)<(qs.length:Int):=by omega
   have hmi:(m:Int)<(zs.length:Int):=by omega
   clear hp hpm hsq hmo hum hub huv ucell hh d0 d1 d3 d5 d6 d7;go_wp2;go_roundw
   case rel=>exact ⟨k+1,by omega,by go_num,ba⟩
   case measure=>simp [intOf];omega
  ·have hlt':¬(k:Int)<(qs.length:Int):=by omega
   obtain⟨wo,rfl⟩:∃ wo:World,wo=wr:=⟨_,rfl⟩;have HBA:=hide (HB5.out.trans (ba.mono hs25));have HOA:=hide (HO5.out.below ba (YA _));have hx0:=(HBA.out.block _ (Zab HX2.out)).trans HX2.out;have y0:=Zaa hx0 0;simp only [YAd,YAX,YAW] at y0;have hsA:=HBA.out.size;clear hlt hk hx0;go_wp2;clear hlt' y0 ba HB5 HO5
   go_loopw [11] (fun i wr=>∃ m:Nat,m<=N/\i=.int .i64 ((m:Int)+1)/\Below wo.heap.size wo wr) (fun i _=>8-(intOf i).toNat)
   case atStart=>exact ⟨0,by omega,rfl,YAC _ _⟩
   case round=>
    obtain⟨m,hmN,rfl,bq⟩:=hrel;have hbq:=bq.size;have HBQ:=hide (HBA.out.trans (bq.mono hsA));have hxq:=(HBQ.out.block _ (Zab HX2.out)).trans HX2.out;have y0:=Zaa hxq 0;have y1:=Zaa hxq 1;have y2:=Zaa hxq 2;simp only [YAd,YAX,YAW] at y0 y1 y2;have hsQ:=HBQ.out.size;have hlx:=Zab HX2.out;clear hxq;by_cases hlv:m<N
    ·have hlv':(m:Int)+1<=(N:Int):=by omega
     obtain⟨ub,hub⟩:∃ b,zs[m]? = some b:=⟨zs[m]'(by have:=HNZ.out;omega),YAA (by have:=HNZ.out;omega)⟩;obtain⟨ug,uo,uc0,huv,hug,ucell⟩:=HZ2.out.cell m ub hub;obtain⟨rfl,rfl⟩:a4=some ⟨ug,uo,none⟩/\c4=uc0:=by cases huv;exact⟨rfl,rfl⟩
     clear huv
     go_wp2_with fail
     refine (HTR.out ((m:Int)+1) _ HBQ.out).mono ?_;rintro e w6 ⟨vl,ql,rfl,htr,hol,b6⟩;obtain⟨la,lc,rfl⟩:=Zac hol.row;have hqln:=Zpe hol.row;unfold maxLen at hqln;have hs6:=b6.size;have HB6:=hide (HBQ.out.trans (b6.mono hsQ));have u6:w6.cell? ⟨ug,uo+m,none⟩=some (.bool ub):=by rw [HB6.out.cell (p:=⟨ug,uo+m,none⟩) hug];exact ucell
     have HL0:=hide (show ub=false->¬(0:Int)<(ql.length:Int) from fun e=>by
      have h:=htr;unfold Zfm ZhR at h;have e1:((m:Int)+1-1).toNat=m:=by omega
      rw [e1,show zs.getD m false=ub by simp [List.getD,hub],e] at h;simp at h;have h2:ql.length=(Za7 ql).length:=by unfold Za7;simp
      rw [h] at h2;have h3:ql.length=0:=h2;omega)
     have HTV:=hide htr;have HOL:=hide hol;have HBO6:=hide (bq.trans (b6.mono hbq));have hmi:(m:Int)<(zs.length:Int):=by have:=HNZ.out;omega
     have hm0:(0:Int)<=(m:Int):=by omega
     clear hub ucell htr hol b6 bq y0 y1 y2;cases ub
     case false=>
      have hl0:=HL0.out rfl;clear HL0;go_wp2;clear u6
      go_loopw [13] (fun i wr=>i=.int .i64 0/\Below w6.heap.size w6 wr) (fun i _=>ql.length-(intOf i).toNat)
      case atStart=>exact ⟨rfl,YAC _ _⟩
      case round=>
       obtain⟨rfl,bi⟩:=hrel;go_wp2;go_roundw
       case rel=>exact ⟨m+1,by omega,by go_num,HBO6.out.trans (bi.mono HBO6.out.size)⟩
       case measure=>simp [intOf];omega
     case true=>
      clear HL0;go_wp2;clear u6
      go_loopw [13] (fun i wr=>∃ j:Nat,j<=ql.length/\i=.int .i64 (j:Int)/\Below w6.heap.size w6 wr) (fun i _=>ql.length-(intOf i).toNat)
      case atStart=>exact ⟨0,by omega,rfl,YAC _ _⟩
      case round=>
       obtain⟨j,hj,rfl,bi⟩:=hrel;have hbi:=bi.size;have HBI:=hide (HB6.out.trans (bi.mono HB6.out.size));by_cases hlj:j<ql.length
       ·obtain ⟨p,hp⟩:∃ p,ql[j]? = some p:=⟨ql[j],YAA hlj⟩;obtain⟨b,off,cp,hve,hbb,d0,d1,d2,d3,d4,d5,hh⟩:=(HOL.out.below bi (YA _)).at.cells j p hp;cases hve;have hji:(0:Int)<=(j:Int):=by omega
        have hjj:(j:Int)<(ql.length:Int):=by omega
        have hxi:=(HBI.out.block _ (Zab HX2.out)).trans HX2.out;have y0:=Zaa hxi 0;have y1:=Zaa hxi 1;have y2:=Zaa hxi 2;simp only [YAd,YAX,YAW] at y0 y1 y2;have HXI:=hide hxi;clear hh hxi;by_cases hk1:p.1.kind=1
        ·rw [hk1] at d2;have HPM:=hide (show p.1∈Za7 ql from List.mem_map_of_mem (YAG hp));have HK1:=hide hk1;obtain⟨c,hc⟩:∃ c,c=p.1.cost:=⟨_,rfl⟩;obtain⟨t,ht⟩:∃ t,t=p.1.to:=⟨_,rfl⟩;rw [<-hc] at d3;rw [<-ht] at d1;have HC:=hide hc;have HT:=hide ht;clear hp hk1 d0 d4 d5 hc ht;go_wp2;refine wp_region_noPanic ?_;refine Zag (S:=(fun W=>W.heap[w1.heap.size]? = some (.cells #[.int .i64 (N:Int),.slice a1 ls.length c1,.slice a2 ts.length c2] 27)/\W.cell? ⟨b,off+j*6+1,none⟩=some (.int .i64 t))) (by kernel_rfl) 10 rfl ⟨HXI.out,d1⟩ (fun ops hops HSW=>?_);refine Zbs 0 ?_ ?_ ?_ (by rw [hops.out];kernel_rfl) ?_ ?_ (by assumption) ?_
         rotate_left 2
         ·rw [hops.out];simp only [getS];rfl
         ·intro W hW;refine ZiZ 27 (.tmp 3) ?_ w1.heap.size ?_ 27 _ (0,0) _ hW.1 Tryz.underlying27 rfl (by kernel_rfl) <;> rfl
         ·exact fun _ _ _=>id
         try simp only [putS]
         iterate 6 (refine TK 10 ?_;try simp only [putS])
         refine Zbs 7 ?_ ?_ ?_ (by rw [hops.out];kernel_rfl) ?_ ?_ (by assumption) ?_
         rotate_left 2
         ·rw [hops.out];simp only [getS];rfl
         ·intro W hW;obtain⟨hW1,hW2⟩:=hW;go_simp <;> with_reducible rfl
         ·exact fun _ _ _=>id
         try simp only [putS]
         refine TC 8 ?_;intro K hK;go_simp;refine (HTR.out t wr.drew HBI.out.drew).mono ?_;rintro e w7 ⟨vb,qb,rfl,htb,hob,b7r⟩;have b7:Below wr.heap.size wr w7:=(YAC wr.heap.size wr).drew.trans b7r;obtain⟨ba',bc',rfl⟩:=Zac hob.row;refine hK.out _ _ ⟨(b7.block _ (Zab HXI.out)).trans HXI.out,(b7.cell (p:=⟨b,off+j*6+1,none⟩) (by show b<wr.heap.size;omega)).trans d1⟩ (fun HSX=>?_);clear hK b7r
         try simp only [putS]
         refine TK 10 ?_
         try simp only [putS]
         refine wpAnyH_done (by rw [hops.out];kernel_rfl) (NoPanic.normal ?_) _;clear hops ops HSX HSW;have hqbn:=Zpe hob.row;unfold maxLen at hqbn;have hs7:=b7.size;obtain⟨g,hg⟩:∃ g:QP->Bool,g=fun q=>backB ((m:Int)+1) c q.1:=⟨_,rfl⟩;have HG:=hide hg;have HF:=hide (show qb.any g=true by
          obtain⟨q,hq,q1,q2,q3⟩:=ZmW HI.out HTV.out HPM.out HK1.out (by rw [<-HT.out];exact htb);obtain⟨q',hq',rfl⟩:=YAR.1 hq;refine List.any_eq_true.2 ⟨q',hq',?_⟩;rw [HG.out];simp [backB,q1,q2,q3,HC.out])
         have HOB:=hide hob;have HB7:=hide (bi.trans (b7.mono hbi));have HD3:=hide (show w7.cell? ⟨b,off+j*6+3,none⟩=some (.int .i64 c) from (b7.cell (p:=⟨b,off+j*6+3,none⟩) (by show b<wr.heap.size;omega)).trans d3);have hbw7:b<w7.heap.size:=by omega
         clear htb hob b7 hg HPM HK1 HC HT y0 y1 y2 d1 d2 d3;go_wp2
         go_loopw [15,16] (fun f i wr=>∃ r:Nat,r<=qb.length/\i=.int .i64 (r:Int)/\f=.bool ((qb.take r).any g)/\Below w7.heap.size w7 wr) (fun _ i _=>qb.length-(intOf i).toNat)
         case atStart=>exact ⟨0,by omega,rfl,by simp,YAC _ _⟩
         case round=>
          obtain⟨r,hr,rfl,rfl,bk⟩:=hrel;have hbk:=bk.size;obtain⟨F,hF⟩:∃ F,F=(qb.take r).any g:=⟨_,rfl⟩;rw [<-hF];by_cases hlr:r<qb.length
          ·obtain ⟨q,hq⟩:∃ q,qb[r]? = some q:=⟨qb[r],YAA hlr⟩;obtain⟨b9,off9,cp9,hve,hbb9,g0,g1,g2,g3,g4,g5,hh⟩:=(HOB.out.below bk (YA _)).at.cells r q hq;cases hve;have hri:(0:Int)<=(r:Int):=by omega
           have hrj:(r:Int)<(qb.length:Int):=by omega
           obtain⟨E,hE⟩:∃ E,E=q.1.thing:=⟨_,rfl⟩;have HS:=hide (show (qb.take (r+1)).any g=(F||(!E&&(q.1.to==(m:Int)+1&&q.1.cost==c))) by rw [ZnX g hq, <-hF,HG.out,hE];rfl);rw [<-hE] at g0;have d3:wr.cell? ⟨b,off+j*6+3,none⟩=some (.int .i64 c):=(bk.cell (p:=⟨b,off+j*6+3,none⟩) hbw7).trans HD3.out;clear hF hE hq hh g2 g4 g5;cases F
           case true=>
            go_wp2
            go_quiet (fail)
            go_wp2;go_roundw
            case rel=>exact ⟨r+1,by omega,by go_num,by rw [HS.out];rfl,by first | exact bk | exact ZcZ bk _⟩
            case measure=>simp [intOf];omega
           case false=>
            cases E
            case true=>
             go_wp2
             go_quiet (fail)
             go_wp2;go_roundw
             case rel=>exact ⟨r+1,by omega,by go_num,by rw [HS.out];rfl,by first | exact bk | exact ZcZ bk _⟩
             case measure=>simp [intOf];omega
            case false=>
             by_cases e1:q.1.to=(m:Int)+1
             ·have k1:(q.1.to==(m:Int)+1)=true:=by simpa using e1
              rw [k1] at HS;rw [e1] at g1;by_cases e2:q.1.cost=c
              ·have k2:(q.1.cost==c)=true:=by simpa using e2
               rw [k2] at HS;rw [e2] at g3;clear e1 e2 k1 k2;go_wp2
               go_quiet (fail)
               go_wp2;go_roundw
               case rel=>exact ⟨r+1,by omega,by go_num,by rw [HS.out];simp,by first | exact bk | exact ZcZ bk _⟩
               case measure=>simp [intOf];omega
              ·have k2:(q.1.cost==c)=false:=by simpa using e2
               rw [k2] at HS;clear e1 e2 k1;go_wp2
               go_quiet (fail)
               go_wp2;go_roundw
               case rel=>exact ⟨r+1,by omega,by go_num,by rw [HS.out];simp,by first | exact bk | exact ZcZ bk _⟩
               case measure=>simp [intOf];omega
             ·have k1:(q.1.to==(m:Int)+1)=false:=by simpa using e1
              rw [k1] at HS;clear e1;go_wp2
              go_quiet (fail)
              go_wp2;go_roundw
              case rel=>exact ⟨r+1,by omega,by go_num,by rw [HS.out];simp,by first | exact bk | exact ZcZ bk _⟩
              case measure=>simp [intOf];omega
          ·have hrj:¬(r:Int)<(qb.length:Int):=by omega
           have hF2:F=true:=by rw [hF,YAL (by omega)];exact HF.out
           clear hF;subst hF2;go_wp2;go_roundw
           case rel=>exact ⟨j+1,by omega,by go_num,HB7.out.trans (bk.mono HB7.out.size)⟩
           case measure=>simp [intOf];omega
        ·have hk2:(p.1.kind==1)=false:=by simpa using hk1
         have hk3:(p.1.kind != 1)=true:=by simpa using hk1
         clear hp hk1;go_wp2;go_roundw
         case rel=>exact ⟨j+1,by omega,by go_num,bi⟩
         case measure=>simp [intOf];omega
       ·have hlj':¬(j:Int)<(ql.length:Int):=by omega
        clear hlj;go_wp2;go_roundw
        case rel=>exact ⟨m+1,by omega,by go_num,HBO6.out.trans (bi.mono HBO6.out.size)⟩
        case measure=>simp [intOf];omega
    ·have hlv':¬(m:Int)+1<=(N:Int):=by omega
     have HOQ:=hide (HOA.out.below bq (by omega))
     go_wp2_with fail
     refine (ZoO _ _ qs qs _ (by omega) (by omega) (HOQ.out.wide (by omega)).at (HOQ.out.wide (by omega)).at).mono ?_;rw [Zsn];rintro e w7 ⟨rfl,b7⟩;have hs7:=b7.size
     go_wp2_with fail
     refine (Zdn _ qs _ (by omega) ((HOQ.out.below b7 (by omega)).wide (by omega)).at).mono ?_;rw [HQ.out,HST.out];rintro e w8 ⟨rfl,b8⟩;go_wp2;go_ret;exact⟨rfl,HB2.out.trans ((HBQ.out.trans ((b7.trans (b8.mono hs7)).mono hsQ)).mono HB2.out.size)⟩
end Go.Proofs.YtikloccefmofdaaGreat
