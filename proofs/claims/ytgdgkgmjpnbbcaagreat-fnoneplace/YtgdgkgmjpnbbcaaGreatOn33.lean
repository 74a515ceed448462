/-
  GoOnI WaysI WaysInI
-/
import Derived.Test.YtgdgkgmjpnbbcaaGreatOn32
import Derived.WalkMore
import Derived.ScopeJumps
import Derived.Test.YtgdgkgmjpnbbcaaGreatOn31
import Derived.Test.YtgdgkgmjpnbbcaaGreatOn13
import Derived.Test.YtgdgkgmjpnbbcaaGreatOn5
namespace Go.Proofs.YtgdgkgmjpnbbcaaGreat
open Go.RowKit
set_option linter.unusedSimpArgs false
set_option linter.unusedVariables false
set_option maxRecDepth 100000
set_option maxHeartbeats 8000000
theorem ZoX {W:World}{lo z:Nat}{L:Nat->Nat->Int}{src:Nat}(h:∃ m,GO W lo z L src m/\m<=43):∃ u n q bp wd wv F c hh,FS W lo z u n q bp wd wv/\GI F c hh n q bp wd/\Inv L src F c hh/\(∀ v,c v<=1000*(Zb8 F:Int))/\Zhl (GO W lo z L src)=7*(6-Zb8 F)+n/\7*(6-Zb8 F)+n<=43:=by
 obtain⟨m,hm,h43⟩:=h;have hle:=Zgw hm;obtain⟨u,n,q,bp,wd,wv,F,c,hh,a1,a2,a3,a4,a5⟩:=ZjQ ⟨m,hm⟩;exact⟨u,n,q,bp,wd,wv,F,c,hh,a1,a2,a3,a4,a5,by omega⟩
theorem Zjp {P:Program}{a:Act}{w:World}{Q:Exit->Act->World->Prop}{c rest:Go.Code}(l:Nat)(hf:findLabel c l=some rest)
  (pass:∀ a w,Q .normal a w->rest.wp P (Exit.jump l (fun a' w'=>Q .normal a' w'/\(0:Nat)<0) Q) a w)
  (first:c.wp P (Exit.jump l (fun a' w'=>Q .normal a' w') Q) a w):(Go.Code.scope c).wp P Q a w:=
 wp_scope_jumps l (fun a' w'=>Q .normal a' w') (fun _ _=>0) hf first pass
theorem ZnD (W:World)(lo z:Nat)(v:Value)(ps:List RP)(hi:Nat)(area:Int)(L:Nat->Nat->Int)(src:Nat)(hv:RecsIn W hi v ps)(hhi:hi<=lo)(hn:tot ps<=1048576)(hL:Links L 1000)(hLk:∀ a b:Nat,1<=a/\a<=6->1<=b/\b<=6->Zgy (fsts ps) area (a:Int) (b:Int)=L a b)(hgo:∃ m,GO W lo z L src m/\m<=43):
  Calls Tryz.prog 59 #[.pointer (some ⟨z,0,none⟩),v,.int .i64 area] W fun e W'=>e=.returned (.tuple #[])/\GEnd W' lo z L src/\Below lo W W':=by
 obtain⟨a1,c1,rfl⟩:=Zac hv.row;have HLI:=hide (fun V (hb:Below lo W V) (a b:Nat) (ha:1<=a/\a<=6) (hb':1<=b/\b<=6) (hl:lo<=V.heap.size)=>by
  have:=ZjI (.slice a1 ps.length c1) ps hi area (a:Int) (b:Int) V (hv.below hb hhi) (Nat.le_trans hhi hl) hn;rw [hLk a b ha hb'] at this;exact this)
 have HGO:=hide hgo;have HLL:=hide hL;clear hgo hv hLk hL
 go_enter Tryz.func59,Tryz.ntmps59
 go_wp2
 go_loopw [6] (fun p wr=>(p=p)/\(∃ m,GO wr lo z L src m/\m<=43)/\Below lo W wr) (fun _ wr=>Zhl (GO wr lo z L src))
 case atStart=>exact ⟨rfl,HGO.out,Below.refl _ _⟩
 case round=>
  rename World=>wa
  clear HGO;obtain⟨_,hgo,hba⟩:=hrel;obtain⟨u,n,q,bp,wd,wv,F,c,hh,fs,gi,iv,bnd,hM,hn43⟩:=ZoX hgo;have cz:=fs.hb.cell;obtain⟨ua,uc,hu⟩:=Zac fs.hb.hq.row;rw [hu] at cz;have hlo:=fs.size;have HFS:=hide fs;have HGI:=hide gi;have HIV:=hide iv;have HBN:=hide bnd;have HM:=hide hM;clear hgo fs gi iv bnd hM;by_cases hn0:n=0
  ·subst hn0
   have HEND:=hide (show GEnd wa lo z L src from ⟨u,q,bp,wd,wv,c,hh,HFS.out,HGI.out.cc,HGI.out.hh,HGI.out.nn,HGI.out.end HIV.out⟩)
   clear hu
   go_wp2_with fail
   refine (Zh3 _ _ _ _).mono ?_
   rintro e w1 ⟨rfl,rfl⟩
   go_wp2
   go_returns
   exact⟨rfl,HEND.out,hba⟩
  ·obtain ⟨m,hm⟩:∃ m,n=m+1:=⟨n-1,by omega⟩
   subst hm;have HPOP:=hide (ZjE wa lo z m _ u q wd wv HFS.out.hb hlo (by omega) rfl HFS.out.lz HFS.out.hp)
   unfold ptrV at HPOP;have hgt:(0:Int)<((m+1:Nat):Int):=by omega
   have hAs:=fun v W=>ZkT v W
   clear hu
   go_wp2_with fail
   refine (Zh3 _ _ _ _).mono ?_
   rintro e w1 ⟨rfl,rfl⟩;obtain⟨t0,kb,hto,hbp,hent⟩:=HGI.out.ent 0 (by omega)
   have ht0:1<=t0/\t0<=6:=by
    have h1:=HGI.out.cc t0;rw [Zco hbp] at h1;have h2:=HGI.out.nn t0 kb hbp;have h3:=HIV.out.cnode t0 (by omega)
    exact h3
   go_wp2_with fail
   by_cases hst:(wd kb).cost<(wd (q 0)).cost
   ·refine Zjp 0 (rest:=?rest) ?hf ?_ ?_
    case hf=>rfl
    ·intro a w hq
     refine wp_skip ?_
     exact hq
    ·go_wp2_with fail
     refine HPOP.out.mono ?_
     rintro e w2 ⟨u',q',rfl,hip,hsh,hb',fk⟩;rw [Zgq] at hb';have fs2:=HFS.out.popped fk hb' hip;have ba2:Below lo W w2:=hba.trans fk.below;have hlo2:=fs2.size;have hw0:=HFS.out.hb.hq.way 0 (by omega)
     have hp2:=(fk.typed _ _ _ _ hw0 (by decide) (fun e=>by rw [e,HFS.out.hb.box] at hw0;simp at hw0)).trans hw0
     obtain⟨pa,pl,pk,hpv⟩:=HFS.out.hb.hq.sl 0 (by omega)
     have hk2:=(fs2.way t0 kb hbp).1;obtain⟨ba,bk,hbv⟩:=Zac (fs2.row t0 kb hbp);have kz:=fs2.known ht0;rw [hbp] at kz;unfold ptrO at kz;rw [hpv] at hp2;rw [hbv] at hk2;obtain⟨p0,hp0⟩:∃ p,p=q 0:=⟨_,rfl⟩;obtain⟨xp,hxp⟩:∃ x,x=wd (q 0):=⟨_,rfl⟩;obtain⟨xb,hxb⟩:∃ x,x=wd kb:=⟨_,rfl⟩;have HBT:=hide (fun V=>Zcl (.slice ba (wd kb).hops.length bk) (.slice pa pl pk) (wd kb) (wd (q 0)) V)
     rw [<-hxp, <-hxb] at HBT;rw [<-hxp] at hp2;rw [<-hxb] at hk2;rw [<-hp0] at hp2 |-;obtain⟨bl,hbl⟩:∃ l,l=xb.hops.length:=⟨_,rfl⟩;rw [<-hbl] at hk2 HBT;have hwp:wayC xp (.slice pa pl pk)=#[.int .i64 (t0:Int),.int .i64 xp.cost,.slice pa pl pk]:=by unfold wayC;rw [hxp,hto]
     rw [hwp] at hp2 HBT;unfold wayC Zbi at HBT;unfold wayC at hk2;obtain⟨pc,hpc⟩:∃ c,c=xp.cost:=⟨_,rfl⟩;obtain⟨bt,hbt⟩:∃ c,c=xb.to:=⟨_,rfl⟩;obtain⟨bc,hbc⟩:∃ c,c=xb.cost:=⟨_,rfl⟩;rw [<-hpc] at hp2 HBT;rw [<-hbt, <-hbc] at hk2 HBT;have lp2:=Zab hp2;have lb2:=Zab hk2;have lz2:=Zab fs2.hb.box;have s1:=Zaa hp2 0;have s2:=Zaa hp2 1;have s3:=Zaa hp2 2;have s4:=Zaa hk2 0;have s5:=Zaa hk2 1;have s6:=Zaa hk2 2;simp at s1 s2 s3 s4 s5 s6
     have hti:(0:Int)<=(t0:Int):=by omega
     have htj:(t0:Int)<7:=by omega
     have FS2:=hide fs2;have HSH:=hide hsh;have HP0:=hide hp0;have HXP:=hide hxp;have HXB:=hide hxb;have HPC:=hide hpc;have HBC:=hide hbc;have HP2:=hide hp2;have HTO:=hide hto;have HBP:=hide hbp;have HEN:=hide hent;clear fs2 hsh hp0 hxp hxb hpc hbt hbc hbl hp2 hk2 hw0 fk hb' hip hpv hbv hwp hto hbp hent HPOP cz
     go_wp2
     refine wp_region_noPanic ?_
     have hS0:w2.drew.cell? ⟨z,t0,none⟩=some (.pointer (some ⟨kb,0,none⟩))/\w2.drew.cell? ⟨p0,0,none⟩=some (.int .i64 (t0:Int))/\w2.drew.cell? ⟨p0,1,none⟩=some (.int .i64 pc)/\w2.drew.cell? ⟨p0,2,none⟩=some (.slice pa pl pk)/\w2.drew.cell? ⟨kb,0,none⟩=some (.int .i64 bt)/\w2.drew.cell? ⟨kb,1,none⟩=some (.int .i64 bc)/\w2.drew.cell? ⟨kb,2,none⟩=some (.slice ba bl bk):=⟨kz,s1,s2,s3,s4,s5,s6⟩;have lz4:z<w2.drew.heap.size:=lz2;have lp4:p0<w2.drew.heap.size:=lp2;have lb4:kb<w2.drew.heap.size:=lb2;refine Zaj (S:=fun W=>W.cell? ⟨z,t0,none⟩=some (.pointer (some ⟨kb,0,none⟩))/\W.cell? ⟨p0,0,none⟩=some (.int .i64 (t0:Int))/\W.cell? ⟨p0,1,none⟩=some (.int .i64 pc)/\W.cell? ⟨p0,2,none⟩=some (.slice pa pl pk)/\W.cell? ⟨kb,0,none⟩=some (.int .i64 bt)/\W.cell? ⟨kb,1,none⟩=some (.int .i64 bc)/\W.cell? ⟨kb,2,none⟩=some (.slice ba bl bk)) (by kernel_rfl) 15 rfl hS0 ?_
     intro ops hops _
     show wpAnyH Tryz.prog .any ops _ _ 15 #[false,false,false,false,false,false,false,false,false,false,false,false,false,false,false] _ w2.drew
     iterate 14
      refine Zat 15 ?_ ?_ ?_ (by rw [hops.out];kernel_rfl) ?_ ?_ (by assumption) ?_
      rotate_left 2
      ·rw [hops.out];simp only [getS,Nat.reduceSub,Nat.reduceAdd];rfl
      ·intro W hW;obtain⟨k1,k2,k3,k4,k5,k6,k7⟩:=hW;go_simp <;> with_reducible rfl
      ·exact fun _ _ _=>id
      try simp only [putS]
     refine Zak 14 (oi:=?_) ?_ (by rw [hops.out];kernel_rfl) ?_ ?_
     rotate_left 1
     ·rw [hops.out];simp only [getS];rfl
     ·rw [hops.out];kernel_rfl
     intro K hK
     go_simp
     refine (HBT.out _).mono ?_
     rintro e w5 ⟨rfl,b5⟩;have hK5:w5.cell? ⟨z,t0,none⟩=some (.pointer (some ⟨kb,0,none⟩))/\w5.cell? ⟨p0,0,none⟩=some (.int .i64 (t0:Int))/\w5.cell? ⟨p0,1,none⟩=some (.int .i64 pc)/\w5.cell? ⟨p0,2,none⟩=some (.slice pa pl pk)/\w5.cell? ⟨kb,0,none⟩=some (.int .i64 bt)/\w5.cell? ⟨kb,1,none⟩=some (.int .i64 bc)/\w5.cell? ⟨kb,2,none⟩=some (.slice ba bl bk):=by
      refine⟨?_,?_,?_,?_,?_,?_,?_⟩
      ·rw [b5.cell lz4];exact hS0.1
      ·rw [b5.cell lp4];exact hS0.2.1
      ·rw [b5.cell lp4];exact hS0.2.2.1
      ·rw [b5.cell lp4];exact hS0.2.2.2.1
      ·rw [b5.cell lb4];exact hS0.2.2.2.2.1
      ·rw [b5.cell lb4];exact hS0.2.2.2.2.2.1
      ·rw [b5.cell lb4];exact hS0.2.2.2.2.2.2
     refine hK.out _ _ hK5 (fun _=>?_)
     clear hK K
     try simp only [putS]
     refine wpAnyH_done (by rw [hops.out];kernel_rfl) ?_ _
     clear hops ops;refine NoPanic.normal ?_
     have hcc:bc<pc:=by rw [HBC.out,HPC.out,HXB.out,HXP.out];exact hst
     rw [decide_eq_true hcc];have fs5:=FS2.out.below ((bdr1 w2).trans b5);have HNX:=hide (show GO w5 lo z L src (7*(6-Zb8 F)+m) from ⟨u',m,q',bp,wd,wv,F,c,hh,fs5,HGI.out.stale HSH.out HTO.out HBP.out hst,HIV.out,HBN.out,rfl⟩)
     have B5:Below lo W w5:=ba2.trans (((bdr1 w2).trans b5).mono hlo2)
     go_wp2
     go_step3
     (try simp only [Exit.then,Exit.jump])
     refine⟨rfl,?_⟩
     go_wp2
     go_roundw
     case rel=>exact ⟨trivial,⟨_,HNX.out,by omega⟩,B5⟩
     case measure=>
      have h1:=Zgw HNX.out;have h2:=HM.out;omega
   ·go_step3
    go_wp2_with fail
    refine HPOP.out.mono ?_
    rintro e w2 ⟨u',q',rfl,hip,hsh,hb',fk⟩;rw [Zgq] at hb';have fs2:=HFS.out.popped fk hb' hip;have ba2:Below lo W w2:=hba.trans fk.below;have hlo2:=fs2.size;have hw0:=HFS.out.hb.hq.way 0 (by omega)
    have hp2:=(fk.typed _ _ _ _ hw0 (by decide) (fun e=>by rw [e,HFS.out.hb.box] at hw0;simp at hw0)).trans hw0
    obtain⟨pa,pl,pk,hpv⟩:=HFS.out.hb.hq.sl 0 (by omega)
    have hk2:=(fs2.way t0 kb hbp).1;obtain⟨ba,bk,hbv⟩:=Zac (fs2.row t0 kb hbp);have kz:=fs2.known ht0;rw [hbp] at kz;unfold ptrO at kz;rw [hpv] at hp2;rw [hbv] at hk2;obtain⟨p0,hp0⟩:∃ p,p=q 0:=⟨_,rfl⟩;obtain⟨xp,hxp⟩:∃ x,x=wd (q 0):=⟨_,rfl⟩;obtain⟨xb,hxb⟩:∃ x,x=wd kb:=⟨_,rfl⟩;have HBT:=hide (fun V=>Zcl (.slice ba (wd kb).hops.length bk) (.slice pa pl pk) (wd kb) (wd (q 0)) V)
    rw [<-hxp, <-hxb] at HBT;rw [<-hxp] at hp2;rw [<-hxb] at hk2;rw [<-hp0] at hp2 |-;obtain⟨bl,hbl⟩:∃ l,l=xb.hops.length:=⟨_,rfl⟩;rw [<-hbl] at hk2 HBT;have hwp:wayC xp (.slice pa pl pk)=#[.int .i64 (t0:Int),.int .i64 xp.cost,.slice pa pl pk]:=by unfold wayC;rw [hxp,hto]
    rw [hwp] at hp2 HBT;unfold wayC Zbi at HBT;unfold wayC at hk2;obtain⟨pc,hpc⟩:∃ c,c=xp.cost:=⟨_,rfl⟩;obtain⟨bt,hbt⟩:∃ c,c=xb.to:=⟨_,rfl⟩;obtain⟨bc,hbc⟩:∃ c,c=xb.cost:=⟨_,rfl⟩;rw [<-hpc] at hp2 HBT;rw [<-hbt, <-hbc] at hk2 HBT;have lp2:=Zab hp2;have lb2:=Zab hk2;have lz2:=Zab fs2.hb.box;have s1:=Zaa hp2 0;have s2:=Zaa hp2 1;have s3:=Zaa hp2 2;have s4:=Zaa hk2 0;have s5:=Zaa hk2 1;have s6:=Zaa hk2 2;simp at s1 s2 s3 s4 s5 s6
    have hti:(0:Int)<=(t0:Int):=by omega
    have htj:(t0:Int)<7:=by omega
    have FS2:=hide fs2;have HSH:=hide hsh;have HP0:=hide hp0;have HXP:=hide hxp;have HXB:=hide hxb;have HPC:=hide hpc;have HBC:=hide hbc;have HP2:=hide hp2;have HTO:=hide hto;have HBP:=hide hbp;have HEN:=hide hent;clear fs2 hsh hp0 hxp hxb hpc hbt hbc hbl hp2 hk2 hw0 fk hb' hip hpv hbv hwp hto hbp hent HPOP cz
    go_wp2
    refine wp_region_noPanic ?_
    have hS0:w2.drew.cell? ⟨z,t0,none⟩=some (.pointer (some ⟨kb,0,none⟩))/\w2.drew.cell? ⟨p0,0,none⟩=some (.int .i64 (t0:Int))/\w2.drew.cell? ⟨p0,1,none⟩=some (.int .i64 pc)/\w2.drew.cell? ⟨p0,2,none⟩=some (.slice pa pl pk)/\w2.drew.cell? ⟨kb,0,none⟩=some (.int .i64 bt)/\w2.drew.cell? ⟨kb,1,none⟩=some (.int .i64 bc)/\w2.drew.cell? ⟨kb,2,none⟩=some (.slice ba bl bk):=⟨kz,s1,s2,s3,s4,s5,s6⟩;have lz4:z<w2.drew.heap.size:=lz2;have lp4:p0<w2.drew.heap.size:=lp2;have lb4:kb<w2.drew.heap.size:=lb2;refine Zaj (S:=fun W=>W.cell? ⟨z,t0,none⟩=some (.pointer (some ⟨kb,0,none⟩))/\W.cell? ⟨p0,0,none⟩=some (.int .i64 (t0:Int))/\W.cell? ⟨p0,1,none⟩=some (.int .i64 pc)/\W.cell? ⟨p0,2,none⟩=some (.slice pa pl pk)/\W.cell? ⟨kb,0,none⟩=some (.int .i64 bt)/\W.cell? ⟨kb,1,none⟩=some (.int .i64 bc)/\W.cell? ⟨kb,2,none⟩=some (.slice ba bl bk)) (by kernel_rfl) 15 rfl hS0 ?_
    intro ops hops _
    show wpAnyH Tryz.prog .any ops _ _ 15 #[false,false,false,false,false,false,false,false,false,false,false,false,false,false,false] _ w2.drew
    iterate 14
     refine Zat 15 ?_ ?_ ?_ (by rw [hops.out];kernel_rfl) ?_ ?_ (by assumption) ?_
     rotate_left 2
     ·rw [hops.out];simp only [getS,Nat.reduceSub,Nat.reduceAdd];rfl
     ·intro W hW;obtain⟨k1,k2,k3,k4,k5,k6,k7⟩:=hW;go_simp <;> with_reducible rfl
     ·exact fun _ _ _=>id
     try simp only [putS]
    refine Zak 14 (oi:=?_) ?_ (by rw [hops.out];kernel_rfl) ?_ ?_
    rotate_left 1
    ·rw [hops.out];simp only [getS];rfl
    ·rw [hops.out];kernel_rfl
    intro K hK
    go_simp
    refine (HBT.out _).mono ?_
    rintro e w5 ⟨rfl,b5⟩;have hK5:w5.cell? ⟨z,t0,none⟩=some (.pointer (some ⟨kb,0,none⟩))/\w5.cell? ⟨p0,0,none⟩=some (.int .i64 (t0:Int))/\w5.cell? ⟨p0,1,none⟩=some (.int .i64 pc)/\w5.cell? ⟨p0,2,none⟩=some (.slice pa pl pk)/\w5.cell? ⟨kb,0,none⟩=some (.int .i64 bt)/\w5.cell? ⟨kb,1,none⟩=some (.int .i64 bc)/\w5.cell? ⟨kb,2,none⟩=some (.slice ba bl bk):=by
     refine⟨?_,?_,?_,?_,?_,?_,?_⟩
     ·rw [b5.cell lz4];exact hS0.1
     ·rw [b5.cell lp4];exact hS0.2.1
     ·rw [b5.cell lp4];exact hS0.2.2.1
     ·rw [b5.cell lp4];exact hS0.2.2.2.1
     ·rw [b5.cell lb4];exact hS0.2.2.2.2.1
     ·rw [b5.cell lb4];exact hS0.2.2.2.2.2.1
     ·rw [b5.cell lb4];exact hS0.2.2.2.2.2.2
    refine hK.out _ _ hK5 (fun _=>?_)
    clear hK K
    try simp only [putS]
    refine wpAnyH_done (by rw [hops.out];kernel_rfl) ?_ _
    clear hops ops;refine NoPanic.normal ?_
    have hcc:¬bc<pc:=by rw [HBC.out,HPC.out,HXB.out,HXP.out];omega
    rw [decide_eq_false hcc];have fs5:=FS2.out.below ((bdr1 w2).trans b5);have B5:Below lo W w5:=ba2.trans (((bdr1 w2).trans b5).mono hlo2);obtain⟨gi5,hq0,hFt,hct,hcost,hhops,hmin⟩:=HGI.out.fresh HSH.out HFS.out.hp HTO.out HBP.out (by omega)
    have hpk:p0=kb:=by rw [HP0.out];exact hq0
    have hbp0:bp t0=some p0:=by rw [hpk];exact HBP.out
    have HGI5:=hide gi5;have HFS5:=hide fs5;have HFT:=hide hFt;have HCT:=hide hct;have HMIN:=hide hmin;have hcb:=HBN.out t0;have hcard:Zb8 F<=5:=by
     have h1:=Zd8 (F:=F) (u:=t0) ht0 hFt;have h2:=ZhO (fun v=>F v||v==t0)
     omega
    have hc5:c t0<=5000:=by omega
    have HBP0:=hide hbp0;clear gi5 fs5 hFt hct hmin hq0 hpk hbp0 hcost hhops HFS FS2 HP2 HBT hK5 hS0 kz s1 s2 s3 s4 s5 s6 HP0 HXP HXB HPC HBC HSH HTO HBP HEN hcc hst b5
    go_wp2
    go_loopw [7] (fun i wr=>∃ (t:Nat) (u:Value) (n:Nat) (q:Nat->Nat) (bp:Nat->Option Nat) (wd:Nat->WayD) (wv:Nat->Value),1<=t/\t<=7/\i=.int .i64 (t:Int)/\Hid (FS wr lo z u n q bp wd wv)/\Hid (GI (fun x=>F x||x==t0) (mixC L c t0 t) (mixH L src c hh t0 t) n q bp wd)/\Hid (bp t0=some p0)/\n+1<=m+t/\Below lo W wr) (fun i _=>8-(intOf i).toNat)
    case atStart=>exact ⟨1,_,m,q',bp,wd,wv,by omega,by omega,rfl,HFS5,hide (by rw [Zkv HLL.out,Zkx HLL.out];exact HGI5.out),HBP0,by omega,B5⟩
    case round=>
     rename World=>wr
     clear HFS5 HGI5 HBP0;obtain⟨t,u2,n2,q2,bp2,wd2,wv2,ht1,ht7,rfl,HF2,HG2,HB2,hn2,hbr⟩:=hrel;by_cases htl:t<7
     ·have ht6:(t:Int)<=6:=by omega
      have ht:1<=t/\t<=6:=by omega
      have hw:=(HF2.out.way t0 p0 HB2.out).1;have hto2:=HF2.out.to t0 p0 HB2.out;have hrow2:=HF2.out.row t0 p0 HB2.out;obtain⟨xa,xc,hxv⟩:=Zac hrow2;have hcx:(wd2 p0).cost=c t0:=by
       have h1:=HG2.out.cc t0;rw [Zco HB2.out,Zmu HCT.out] at h1;exact h1
      have hhx:(wd2 p0).hops=hh t0:=by
       have h1:=HG2.out.hh t0;rw [Zd9 HB2.out,ZjT HCT.out] at h1;exact h1
      have hxl:=HF2.out.short t0 p0 HB2.out;obtain⟨x,hx⟩:∃ x,x=wd2 p0:=⟨_,rfl⟩;rw [hxv, <-hx] at hw hrow2;rw [<-hx] at hto2 hcx hhx hxl;have hwx:wayC x (.slice xa x.hops.length xc)=#[.int .i64 (t0:Int),.int .i64 x.cost,.slice xa x.hops.length xc]:=by unfold wayC;rw [hto2]
      rw [hwx] at hw;have e0:=Zaa hw 0;simp at e0
      have hlr:=HF2.out.size;have lpr:=Zab hw;have HLI2:=hide (HLI.out wr hbr t0 t ht0 ht hlr);have hl0:=HLL.out.pos t0 t;have hl1:=HLL.out.le t0 t;obtain⟨lk,hlk⟩:∃ l,l=L t0 t:=⟨_,rfl⟩;rw [<-hlk] at HLI2 hl0 hl1;have HLK:=hide hlk;have HW:=hide hw;have HROW:=hide hrow2;have HCX:=hide hcx;have HHX:=hide hhx;have HX:=hide hx;have HWX:=hide hwx;have HTO2:=hide hto2;clear hlk hw hrow2 hcx hhx hx hwx hxv hto2;by_cases hlz:lk=0
      ·subst hlz
       have HG3:=hide (Zlq (by rw [<-HLK.out];omega) HG2.out)
       go_wp2_with fail
       refine HLI2.out.mono ?_
       rintro e w6 ⟨rfl,b6⟩;have FS6:=hide (HF2.out.below b6);have B6:Below lo W w6:=hbr.trans (b6.mono hlr);clear b6
       go_wp2
       go_roundw
       case rel=>exact ⟨t+1,u2,n2,q2,bp2,wd2,wv2,by omega,by omega,by go_num,FS6,HG3,HB2,by omega,B6⟩
       case measure=>simp [intOf];omega
      ·have hlp:0<lk:=by omega
       have hlp2:lk>0:=hlp;have HY:=hide (Zn2 HIV.out HCT.out HHX.out lk (t:=t))
       go_wp2_with fail
       refine HLI2.out.mono ?_
       rintro e w6 ⟨rfl,b6⟩;have fs6:=HF2.out.below b6;have B6:Below lo W w6:=hbr.trans (b6.mono hlr);have hw6:=(b6.block _ lpr).trans HW.out;have g0:=Zaa hw6 0;have g1:=Zaa hw6 1;have g2:=Zaa hw6 2;simp at g0 g1 g2
       rw [HCX.out] at g1;have hon:=Zlg x (.slice xa x.hops.length xc) lo (t:Int) lk w6 (Zaf HROW.out b6 (Nat.le_refl _)) (by omega) (by rw [HCX.out];have:=HCT.out;omega) (by rw [HCX.out];omega)
       rw [HWX.out,HY.out,HCX.out] at hon;have HON:=hide hon;have HFS6:=hide fs6;clear hon fs6 b6 hw6
       go_wp2_with fail
       refine HON.out.mono ?_
       rintro e w7 ⟨v7,rfl,ho7,b7⟩;have fs7:=HFS6.out.below b7;have B7:Below lo W w7:=B6.trans (b7.mono HFS6.out.size);have hl67:=b7.size;have hfr:∀ v' k' b,bp2 v'=some k'->(wv2 k').ownBlock=some b->v7.ownBlock≠some b:=by
        intro v' k' b e1 e2 e3;have h1:=((HFS6.out.row v' k' e1).lt b e2).2;have h2:=(ho7.lt b e3).1;omega
       have hjl:∀ kn,bp2 t=some kn->¬c t0+lk<(wd2 kn).cost->(togI (wd2 kn) ⟨(t:Int),c t0+lk,wayL src hh t0 t⟩).hops.length<=6/\(togI (wd2 kn) ⟨(t:Int),c t0+lk,wayL src hh t0 t⟩).cost=(wd2 kn).cost/\(togI (wd2 kn) ⟨(t:Int),c t0+lk,wayL src hh t0 t⟩).to=(wd2 kn).to:=by
        intro kn e1 e2;rw [HLK.out] at e2 |-;obtain⟨j1,_,j3,j4⟩:=Zmn HIV.out (by rw [<-HLK.out];exact hlp) ht HG2.out e1 e2
        exact⟨by rw [j1];exact ZmS HIV.out HLL.out HCT.out,j3,j4⟩
       have HFO:=hide (ZiM w7 lo z u2 n2 q2 bp2 wd2 wv2 t ⟨(t:Int),c t0+lk,wayL src hh t0 t⟩ v7 fs7 (by omega) ht rfl (Zah ho7 HFS6.out.size) (Zpq HIV.out ht) hfr hjl)
       obtain⟨na,nc,hv7⟩:=Zac ho7;have hkq:∀ i,i<n2->q2 i≠w7.heap.size:=fun i hi e=>by have:=Zab (fs7.hb.hq.way i hi);omega
       have hkb:∀ v,bp2 v≠some w7.heap.size:=fun v e=>by have:=Zab (fs7.way v _ e).1;omega
       have hp7:p0≠w7.heap.size:=fun e=>hkb t0 (by rw [HB2.out,e])
       have HKQ:=hide hkq;have HKB:=hide hkb;rw [hv7];rw [hv7] at HFO;clear fs7 hfr hjl ho7 b7 hkq hkb hv7
       go_wp2_with fail
       refine HFO.out.mono ?_
       rintro e w8 ⟨rfl,b8,hcs⟩;have B8:Below lo W w8:=B7.trans b8
       rcases hcs with ⟨hcase,u3,q3,fs8,hsh8⟩ | ⟨kn,vy,e1,e2,fs8⟩
       ·have HG8:=hide (Zlp HIV.out HFT.out HCT.out (by rw [<-HLK.out];exact hlp) ht HG2.out (by rw [<-HLK.out];exact hcase) HKQ.out HKB.out hsh8)
        rw [<-HLK.out] at HG8;have HFS8:=hide fs8;have HB8:=hide (show upd bp2 t (some w7.heap.size) t0=some p0 by
         rw [Zaq]
         ·exact HB2.out
         ·intro e
          subst e;have hcc:=HCT.out;have hx1:=HG2.out.cc t0;rw [Zdn] at hx1
          rcases hcase with e3 | ⟨kn,e3,e4⟩
          ·rw [HB2.out] at e3;cases e3
          ·rw [Zco e3] at hx1
           have e5:c t0+lk<(wd2 kn).cost:=e4;omega)
        clear fs8 hsh8 hcase
        go_wp2
        go_roundw
        case rel=>exact ⟨t+1,u3,n2+1,q3,_,_,_,by omega,by omega,by go_num,HFS8,HG8,HB8,by omega,B8⟩
        case measure=>simp [intOf];omega
       ·have HG8:=hide (Zlo HIV.out (by rw [<-HLK.out];exact hlp) ht HG2.out e1 (by rw [<-HLK.out];exact e2))
        rw [<-HLK.out] at HG8;have HFS8:=hide fs8;clear fs8 e1 e2
        go_wp2
        go_roundw
        case rel=>exact ⟨t+1,u2,n2,q2,bp2,_,_,by omega,by omega,by go_num,HFS8,HG8,HB2,by omega,B8⟩
        case measure=>simp [intOf];omega
     ·have ht6:¬(t:Int)<=6:=by omega
      have htt:t=7:=by omega
      subst htt;have hg9:=HG2.out;rw [Zku HLL.out,Zkw HLL.out] at hg9;have iv9:=HIV.out.step HLL.out HFT.out HCT.out HMIN.out (fun v=>ZeJ HIV.out HLL.out HCT.out v)
      have hcard9:Zb8 (fun v=>F v||v==t0)=Zb8 F+1:=Zd8 ht0 HFT.out
      have HNX:=hide (show GO wr lo z L src (7*(6-Zb8 (fun v=>F v||v==t0))+n2) from ⟨u2,n2,q2,bp2,wd2,wv2,_,_,_,HF2.out,hg9,iv9,fun v=>by
       rw [hcard9];have h1:=ZfW (L:=L) (u:=t0) (v:=v) HBN.out HLL.out.le;omega,rfl⟩)
      rw [hcard9] at HNX;clear hg9 iv9 hcard9
      go_wp2
      go_step3
      rw [Exit.noGoto_normal]
      go_wp2
      go_roundw
      case rel=>exact ⟨trivial,⟨_,HNX.out,by omega⟩,hbr⟩
      case measure=>
       have h1:=Zgw HNX.out;have h2:=HM.out;omega
def Zcj (bp:Nat->Option Nat)(wd:Nat->WayD)(wv:Nat->Value):Nat->List WP
 | 0=>[]
 | t+1=>Zcj bp wd wv t++(match bp t with
  | some k=>[(wd k,wv k)]
  | none=>[])
theorem Zdj {bp:Nat->Option Nat}{wd:Nat->WayD}{wv:Nat->Value}{t k:Nat}(h:bp t=some k):Zcj bp wd wv (t+1)=Zcj bp wd wv t++[(wd k,wv k)]:=by
 show Zcj bp wd wv t++(match bp t with
  | some k=>[(wd k,wv k)]
  | none=>[])=_
 rw [h]
theorem ZcK {bp:Nat->Option Nat}{wd:Nat->WayD}{wv:Nat->Value}{t:Nat}(h:bp t=none):Zcj bp wd wv (t+1)=Zcj bp wd wv t:=by
 show Zcj bp wd wv t++(match bp t with
  | some k=>[(wd k,wv k)]
  | none=>[])=_
 rw [h];simp
theorem ZeU {bp:Nat->Option Nat}{wd:Nat->WayD}{wv:Nat->Value}{p:WP}:∀ {t:Nat},p∈Zcj bp wd wv t->∃ v k,v<t/\bp v=some k/\p=(wd k,wv k)
 | 0,h=>by cases h
 | t+1,h=>by
  cases e:bp t with
  | none=>
   rw [ZcK e] at h;obtain⟨v,k,h1,h2⟩:=ZeU h;exact⟨v,k,by omega,h2⟩
  | some k=>
   rw [Zdj e] at h
   rcases List.mem_append.1 h with h1 | h1
   ·obtain ⟨v,k,h1,h2⟩:=ZeU h1
    exact⟨v,k,by omega,h2⟩
   ·exact ⟨t,k,by omega,e,by simpa using h1⟩
theorem ZiC (bp:Nat->Option Nat)(wd:Nat->WayD)(wv:Nat->Value):∀ t,(Zcj bp wd wv t).length<=t
 | 0=>by simp [Zcj]
 | t+1=>by
  have:=ZiC bp wd wv t;cases e:bp t with
  | none=>rw [ZcK e];omega
  | some k=>rw [Zdj e];simp;omega
theorem Zew {bp:Nat->Option Nat}{wd:Nat->WayD}{wv:Nat->Value}(h:∀ v v' k k',v≠v'->bp v=some k->bp v'=some k'->∀ b,(wv k).ownBlock=some b->(wv k').ownBlock≠some b):∀ t,(Zcj bp wd wv t).Pairwise ZcB
 | 0=>by simp [Zcj]
 | t+1=>by
  cases e:bp t with
  | none=>rw [ZcK e];exact Zew h t
  | some k=>
   rw [Zdj e,List.pairwise_append];refine⟨Zew h t,by simp,fun p hp q hq=>?_⟩
   obtain⟨v,k',hv,e2,rfl⟩:=ZeU hp;have:q=(wd k,wv k):=by simpa using hq
   subst this;intro b hb;exact h v t k' k (by omega) e2 e b hb
theorem Zhb {bp:Nat->Option Nat}{wd:Nat->WayD}{wv:Nat->Value}{c:Nat->Int}{h:Nat->List Int}(h0:bp 0=none)(hc:∀ v,cOf bp wd v=c v)(hh:∀ v,hOf bp wd v=h v)(hto:∀ v k,bp v=some k->(wd k).to=(v:Int))(hnn:∀ v k,bp v=some k->0<=(wd k).cost):∀ t,Zag (Zcj bp wd wv (t+1))=ZcG c h t
 | 0=>by rw [ZcK h0];rfl
 | t+1=>by
  have ih:=Zhb h0 hc hh hto hnn t (wv:=wv);have e1:=hc (t+1);have e2:=hh (t+1);unfold ZcG;cases e:bp (t+1) with
  | none=>
   rw [Zf4 e] at e1;rw [ZcK e,ih,if_neg (by omega),List.append_nil]
  | some k=>
   rw [Zco e] at e1;rw [Zd9 e] at e2;have h1:=hnn (t+1) k e;have h2:=hto (t+1) k e;rw [Zdj e,if_pos (by omega), <-ih, <-e1, <-e2, <-h2]
   simp [Zag]
theorem Zol (f:Nat->Value)(W:World){t:Nat}(ht:t<=6):(Instr.index 103 (.agg #[f 0,f 1,f 2,f 3,f 4,f 5,f 6]) (.int .i64 (t:Int))).run Tryz.prog W=.ok (f t) W:=by
 have h:t=0\/t=1\/t=2\/t=3\/t=4\/t=5\/t=6:=by omega
 rcases h with rfl | rfl | rfl | rfl | rfl | rfl | rfl <;> rfl
theorem ZoC (W:World)(lo z:Nat)(u:Value)(n:Nat)(q:Nat->Nat)(bp:Nat->Option Nat)(wd:Nat->WayD)(wv:Nat->Value)(s:FS W lo z u n q bp wd wv):
  Calls Tryz.prog 60 #[.pointer (some ⟨z,0,none⟩)] W fun e W'=>∃ x,e=.returned x/\WaysOwn W' lo W'.heap.size x (Zcj bp wd wv 7)/\Below lo W W':=by
 have hlo:=s.size;have lz:=Zab s.hb.box;have B0:Below W.heap.size W (W.alloc (.cells #[] 48)):=(Below.refl _ _).alloc (Nat.le_refl _) _;have O0:(W.alloc (.cells #[] 48)).ownsRow W.heap.size 48 3 (.slice (some ⟨W.heap.size,0,none⟩) 0 0) 0 (flat encW []):=World.ownsRow_lit W #[] 0 (Nat.le_refl _) (by unfold maxLen;omega) (by simp)
 obtain⟨W0,hW0⟩:∃ V,V=W.alloc (.cells #[] 48):=⟨_,rfl⟩;rw [<-hW0] at B0 O0;have bx:=s.hb.box;unfold finC at bx;have d0:=Zaa bx 0;have d1:=Zaa bx 1;have d2:=Zaa bx 2;have d3:=Zaa bx 3;have d4:=Zaa bx 4;have d5:=Zaa bx 5;have d6:=Zaa bx 6;simp at d0 d1 d2 d3 d4 d5 d6
 have FIN:=hide (fun (W':World) (x:Value) (hb:Below W.heap.size W W') (ho:W'.ownsRow W.heap.size 48 3 x (Zcj bp wd wv 7).length (flat encW (Zcj bp wd wv 7)))=>show WaysOwn W' lo W'.heap.size x (Zcj bp wd wv 7) from
  {row:=Zah ho hlo
   top:=fun k hk=>(ho.lt k hk).2
   nears:=fun p hp=>by
    obtain⟨v,k,_,e,rfl⟩:=ZeU hp;have hr:=Zaf (s.row v k e) hb (Nat.le_refl _);exact⟨hr,fun b hb=>(hr.lt b hb).2⟩
   apart:=Zew s.apart 7 })
 have HWY:=hide (fun v k (e:bp v=some k)=>(s.way v k e).1)
 have HSL:=hide (fun v k (e:bp v=some k)=>Zac (s.row v k e))
 obtain⟨f,hf⟩:∃ f:Nat->Value,f=fun t=>ptrO (bp t):=⟨_,rfl⟩
 have HF:=hide hf;rw [show ptrO (bp 0)=f 0 by rw [hf]] at d0
 rw [show ptrO (bp 1)=f 1 by rw [hf]] at d1
 rw [show ptrO (bp 2)=f 2 by rw [hf]] at d2
 rw [show ptrO (bp 3)=f 3 by rw [hf]] at d3
 rw [show ptrO (bp 4)=f 4 by rw [hf]] at d4
 rw [show ptrO (bp 5)=f 5 by rw [hf]] at d5
 rw [show ptrO (bp 6)=f 6 by rw [hf]] at d6
 have HO0:=hide O0;clear hf s bx O0
 go_enter Tryz.func60,Tryz.ntmps60
 go_wp2
 rw [<-hW0];clear hW0 d0 d1 d2 d3 d4 d5 d6
 go_loopw [11,3] (fun i o wr=>∃ (t:Nat) (x:Value),t<=7/\i=.int .i64 (t:Int)/\o=x/\wr.ownsRow W.heap.size 48 3 x (Zcj bp wd wv t).length (flat encW (Zcj bp wd wv t))/\Below W.heap.size W wr) (fun i _ _=>8-(intOf i).toNat)
 case atStart=>exact ⟨0,_,by omega,rfl,rfl,HO0.out,B0⟩
 case round=>
  obtain⟨t,x,ht,rfl,rfl,hown,hb⟩:=hrel;clear HO0 B0;obtain⟨xa,xc,rfl⟩:=Zac hown;have hsz:=hb.size;have OW:=hide hown;have hcl:=ZiC bp wd wv t;clear hown;by_cases htl:t<7
  ·have ht6:(t:Int)<7:=by omega
   have hix:=fun V=>Zol f V (t:=t) (by omega)
   cases e:bp t with
   | none=>
    have hft:f t=.pointer none:=by rw [HF.out];show ptrO (bp t)=_;rw [e];rfl
    rw [hft] at hix;have HOW:=hide (show wr.ownsRow W.heap.size 48 3 (.slice xa (Zcj bp wd wv t).length xc) (Zcj bp wd wv (t+1)).length (flat encW (Zcj bp wd wv (t+1))) by rw [ZcK e];exact OW.out)
    clear e hft
    go_wp2
    go_roundw
    case rel=>exact ⟨t+1,_,by omega,by go_num,rfl,HOW.out,hb⟩
    case measure=>simp [intOf];omega
   | some k=>
    have hft:f t=.pointer (some ⟨k,0,none⟩):=by rw [HF.out];show ptrO (bp t)=_;rw [e];rfl
    rw [hft] at hix;obtain⟨ya,yc,hyv⟩:=HSL.out t k e;have hw:=HWY.out t k e;rw [hyv] at hw;obtain⟨y,hy⟩:∃ y,y=wd k:=⟨_,rfl⟩;rw [<-hy] at hw hyv;have lk:=Zab hw;have hw2:=(hb.block _ lk).trans hw;have s0:=Zaa hw2 0;have s1:=Zaa hw2 1;have s2:=Zaa hw2 2;simp [wayC] at s0 s1 s2
    have HSP:=hide (Zdj e (wd:=wd) (wv:=wv));rw [hyv, <-hy] at HSP;obtain⟨C,hC⟩:∃ C,C=Zcj bp wd wv t:=⟨_,rfl⟩;rw [<-hC] at OW HSP hcl |-;clear e hft hw hw2 hy hyv hC
    go_wp2_with (first
     | (at_builtin;refine ZaG Zbd (by omega) (by omega) _ rfl _ _ 41 rfl W.heap.size 48 Tryz.underlying41 (.agg (wayC Zbg (.slice none 0 0))) rfl Tryz.infoWay _ C (y,.slice ya y.hops.length yc) (Zc3 _ _ _ _) rfl (OW.out.alloc _) ⟨wr.heap.size,0,none⟩ 1 rfl (Zap (cs:=encW (y,.slice ya y.hops.length yc))) (by omega) (by simp;omega) ?_))
    intro v' w4 hown' hgrow;have B4:Below W.heap.size W w4:=(hb.alloc hsz _).grown hgrow (by simp;omega) (fun j hj=>(OW.out.lt j hj).1)
    have O4:=hide (show w4.ownsRow W.heap.size 48 3 v' (Zcj bp wd wv (t+1)).length (flat encW (Zcj bp wd wv (t+1))) by rw [HSP.out];simpa using hown')
    obtain⟨va,vc,rfl⟩:=Zac hown';clear hown' hgrow
    go_wp2
    go_roundw
    case rel=>exact ⟨t+1,_,by omega,by go_num,rfl,O4.out,B4⟩
    case measure=>simp [intOf];omega
  ·have ht6:¬(t:Int)<7:=by omega
   have htt:t=7:=by omega
   subst htt;have HE:=hide (FIN.out wr _ hb OW.out);have HBB:=hide (hb.mono hlo);obtain⟨C,hC⟩:∃ C,C=Zcj bp wd wv 7:=⟨_,rfl⟩;rw [<-hC] at HE |-;have HCC:=hide hC;clear hC OW FIN
   go_wp2
   go_ret
   exact⟨_,rfl,by rw [<-HCC.out];exact HE.out,HBB.out⟩
theorem ZoW (q:Nat->Nat)(wd:Nat->WayD):GI (fun _=>false) (fun _ => -1) (fun _=>[]) 0 q (fun _=>none) wd:=
 ⟨fun _=>rfl,fun _=>rfl,fun _ _ e=>(by cases e),fun i hi=>(by omega),fun _ _ e=>(by cases e),fun i j hi=>(by omega),fun _ _ e=>(by cases e)⟩
theorem fs_new (W:World)(wd:Nat->WayD)(wv:Nat->Value)(q:Nat->Nat):FS (W.alloc (.cells #[.pointer none,.pointer none,.pointer none,.pointer none,.pointer none,.pointer none,.pointer none,.slice none 0 0] 107)) W.heap.size W.heap.size (.slice none 0 0) 0 q (fun _=>none) wd wv where
 lz:=Nat.le_refl _
 hb:=⟨heap_alloc_new W _,rfl,World.ownsRow_nil _ _ _ _,fun i hi=>by omega,fun i hi=>by omega⟩
 hp:=fun i _ hi=>by omega
 way:=fun _ _ e=>by cases e
 row:=fun _ _ e=>by cases e
 short:=fun _ _ e=>by cases e
 apart:=fun _ _ _ _ _ e=>by cases e
 to:=fun _ _ e=>by cases e
 b0:=rfl
theorem Zey (v:Value)(ps:List RP)(hi:Nat)(area src:Int)(w:World)(hv:RecsIn w hi v ps)(hhi:hi<=w.heap.size)(hn:tot ps<=1048576):
  Calls Tryz.prog 23 #[v,.int .i64 area,.int .i64 src] w fun e w'=>∃ u qs,e=.returned u/\Zbn (fsts ps) area src (Zag qs)/\WaysOwn w' w.heap.size w'.heap.size u qs/\Below w.heap.size w w':=by
 obtain⟨a1,c1,rfl⟩:=Zac hv.row;have HS:=hide (ZiT (.slice a1 ps.length c1) ps w hn (ZbK.more hv.at hhi));have HP:=hide (fun W (hb:Below w.heap.size w W)=>Zhs (.slice a1 ps.length c1) ps hi area src W (hv.below hb hhi) (Nat.le_trans hhi hb.size) hn)
 have HV:=hide hv;clear hv;obtain⟨SB,hSB⟩:∃ b,b=ZaE (fsts ps):=⟨_,rfl⟩;obtain⟨IB,hIB⟩:∃ b,b=inB src 1 6:=⟨_,rfl⟩;rw [<-hSB] at HS;have HSB:=hide hSB;have HIB:=hide hIB;clear hSB hIB;have EMP:=hide (fun (e:(ZaE (fsts ps)&&inB src 1 6&&Zfy (fsts ps) area src)=false)=>show Zbn (fsts ps) area src (Zag []) by unfold Zbn;rw [e];rfl)
 have LIT:=hide (fun W (hb:Below w.heap.size w W)=>Zfm W w.heap.size hb.size)
 go_enter Tryz.func23,Tryz.ntmps23
 go_wp2_with fail
 refine HS.out.mono ?_
 rintro e w1 ⟨rfl,b1⟩;cases SB
 ·have HE:=hide (EMP.out (by rw [<-HSB.out];rfl))
  have HL:=hide (LIT.out w1 b1);have HB:=hide (b1.alloc b1.size (.cells #[] 48))
  go_wp2
  go_ret
  exact⟨_,[],rfl,HE.out,HL.out,HB.out⟩
 ·go_wp2_with fail
  refine (Zcb _ _ _ _).mono ?_
  rintro e w2 ⟨rfl,rfl⟩;rw [<-HIB.out];cases IB
  ·have HE:=hide (EMP.out (by rw [<-HSB.out, <-HIB.out];rfl))
   have HL:=hide (LIT.out w1 b1);have HB:=hide (b1.alloc b1.size (.cells #[] 48))
   go_wp2
   go_ret
   exact⟨_,[],rfl,HE.out,HL.out,HB.out⟩
  ·have hpl:=HP.out w1 b1
   have hnb:=Zlf HSB.out.symm area src;cases hR:plN (fsts ps) area src with
   | none=>
    rw [hR] at hpl hnb;unfold plV2 at hpl;have HPL:=hide hpl;have HE:=hide (EMP.out (by rw [hnb, <-HSB.out, <-HIB.out];rfl))
    clear hpl hnb hR
    go_wp2_with fail
    refine HPL.out.mono ?_
    rintro e w2 ⟨rfl,b2⟩;have B2:Below w.heap.size w w2:=b1.trans (b2.mono b1.size);have HL:=hide (LIT.out w2 B2);have HB:=hide (B2.alloc B2.size (.cells #[] 48));clear b2
    go_wp2
    go_ret
    exact⟨_,[],rfl,HE.out,HL.out,HB.out⟩
   | some k0=>
    rw [hR] at hpl hnb;unfold plV2 at hpl;have HPL:=hide hpl;obtain⟨s,rfl⟩:∃ s:Nat,src=(s:Int):=⟨src.toNat,by have:=ZdQ.1 HIB.out.symm;omega⟩
    have hs6:=ZdQ.1 HIB.out.symm;have hs:1<=s/\s<=6:=by omega
    have FIN:=hide (fun c h (hf:Fix (Ze3 (fsts ps) area) s c h)=>show Zbn (fsts ps) area (s:Int) (ZcG c h 6) by
     unfold Zbn;rw [hnb, <-HSB.out, <-HIB.out];exact⟨c,h,by simpa using hf,rfl⟩)
    have HLK:=hide (Zez (area:=area) HSB.out.symm);have HLN:=hide (fun (a b:Nat) (ha:1<=a/\a<=6) (hb:1<=b/\b<=6)=>ZiV HSB.out.symm area ha hb)
    clear hpl hnb hR EMP LIT HP
    go_wp2_with fail
    refine HPL.out.mono ?_
    rintro e w2 ⟨rfl,b2⟩;have B2:Below w.heap.size w w2:=b1.trans (b2.mono b1.size);have B3:Below w2.heap.size w2 (w2.alloc (.cells #[.pointer none,.pointer none,.pointer none,.pointer none,.pointer none,.pointer none,.pointer none,.slice none 0 0] 107)):=(Below.refl _ _).alloc (Nat.le_refl _) _;have fs:=fs_new w2 (fun _=>Zbg) (fun _=>.slice none 0 0) (fun _=>0)
    obtain⟨w3,hw3⟩:∃ W,W=w2.alloc (.cells #[.pointer none,.pointer none,.pointer none,.pointer none,.pointer none,.pointer none,.pointer none,.slice none 0 0] 107):=⟨_,rfl⟩;rw [<-hw3] at B3 fs;obtain⟨lo,hlo⟩:∃ l,l=w2.heap.size:=⟨_,rfl⟩;have HFO:=hide (ZiM w3 w2.heap.size w2.heap.size (.slice none 0 0) 0 (fun _=>0) (fun _=>none) (fun _=>Zbg) (fun _=>.slice none 0 0) s ⟨(s:Int),0,[]⟩ (.slice none 0 0) fs (by omega) hs rfl (World.ownsRow_nil _ _ _ _) (by simp) (fun _ _ _ e=>by cases e) (fun _ e=>by cases e))
    unfold wayC at HFO;have HHI:hi<=w2.heap.size:=by have:=B2.size;omega
    have hwlo:w.heap.size<=w2.heap.size:=B2.size;have HV3:=hide (HV.out.below (B2.trans (B3.mono hwlo)) hhi);clear fs b2 HPL HV
    go_wp2_with fail
    rw [<-hw3];clear hw3;refine HFO.out.mono ?_
    rintro e w4 ⟨rfl,b4,hcs⟩;have HGO:Hid (∃ m,GO w4 w2.heap.size w2.heap.size (Ze3 (fsts ps) area) s m/\m<=43):=by
     rcases hcs with ⟨hcase,u3,q3,fs4,hsh⟩ | ⟨kn,vy,e1,_⟩
     ·refine ⟨7*(6-Zb8 (fun _=>false))+1,⟨u3,1,q3,_,_,_,(fun _=>false),(fun v=>if v=s then 0 else -1),(fun _=>[]),fs4,?_,Inv.init hs,fun v=>?_,rfl⟩,by rw [Zgj];omega⟩
      ·have g:=(ZoW (fun _=>0) (fun _=>Zbg)).push (t:=s) (k:=w3.heap.size) (x:=⟨(s:Int),0,[]⟩) rfl rfl (.inl (by omega)) (fun i hi=>by omega) (fun v e=>by cases e) hsh (by show (0:Int)<=0;omega)
       have ec:upd (fun _=>(-1:Int)) s 0=fun v=>if v=s then 0 else -1:=by funext v;rfl
       have eh:upd (fun _=>([]:List Int)) s []=fun _=>[]:=by funext v;unfold upd;split <;> rfl
       rw [<-ec, <-eh];exact g
      ·rw [Zgj]
       show (if v=s then (0:Int) else -1)<=_
       split <;> omega
     ·cases e1
    have HGN:=hide (ZnD w4 w2.heap.size w2.heap.size (.slice a1 ps.length c1) ps hi area (Ze3 (fsts ps) area) s (HV3.out.below b4 HHI) HHI hn HLK.out HLN.out HGO.out);have B4:Below w.heap.size w w4:=(B2.trans (B3.mono hwlo)).trans (b4.mono hwlo);clear hcs b4 HGO HFO
    go_wp2_with fail
    refine HGN.out.mono ?_
    rintro e w5 ⟨rfl,hge,b5⟩;obtain⟨u5,q5,bp5,wd5,wv5,c5,h5,fs5,cc5,hh5,nn5,fx5⟩:=hge;have B5:Below w.heap.size w w5:=B4.trans (b5.mono hwlo);have HWA:=hide (ZoC w5 w2.heap.size w2.heap.size u5 0 q5 bp5 wd5 wv5 fs5);have HIS:=hide (show Zbn (fsts ps) area (s:Int) (Zag (Zcj bp5 wd5 wv5 7)) by
     rw [Zhb fs5.b0 cc5 hh5 fs5.to nn5 6];exact FIN.out c5 h5 fx5)
    clear fs5 cc5 hh5 nn5 fx5 b5 HGN
    go_wp2_with fail
    refine HWA.out.mono ?_
    rintro e w6 ⟨x,rfl,ow6,b6⟩;obtain⟨xa,xc,rfl⟩:=Zac ow6.row;have B6:=hide (B5.trans (b6.mono hwlo));have O6:=hide (ow6.wide hwlo (Nat.le_refl _));clear ow6 b6 HWA
    go_wp2
    go_ret
    first
     | exact ⟨_,_,rfl,HIS.out,O6.out,B6.out⟩
     | exact ⟨_,rfl,_,HIS.out,O6.out,B6.out⟩
end Go.Proofs.YtgdgkgmjpnbbcaaGreat
