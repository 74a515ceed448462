/-
  WithinS BeyS
-/
import Derived.Test.YtcimbiinljcifaaGreatLn25
import Derived.Test.YtcimbiinljcifaaGreatLn26
import Derived.Test.YtcimbiinljcifaaGreatLn27
import Derived.Test.YtcimbiinljcifaaGreatLn7
namespace Go.Proofs.YtcimbiinljcifaaGreat
open Go.RowKit
set_option linter.unusedSimpArgs false
set_option linter.unusedVariables false
set_option maxRecDepth 100000
set_option maxHeartbeats 8000000
theorem WLs.keep {W W':World}{lo hi:Nat}{u:Value}{ls:List LP}(h:WLs W lo hi u ls)(hk:∀ k,lo<=k->k<hi->k<W.heap.size->W'.heap[k]? = W.heap[k]?):WLs W' lo hi u ls:=
 ⟨Zam h.row (fun k e=>hk k (h.row.lt k e).1 (h.top k e) (h.row.lt k e).2),h.top,fun p hp=>(h.ways p hp).keep hk⟩
def Zbr (xs:List RecD)(src:Int)(al:List Int)(ls:List LP):Prop:=ls.map (fun p=>ZaH p.2)=al.map (fun a=>Zcb xs a src)
theorem Zbr.at {xs:List RecD}{src:Int}{al:List Int}{ls:List LP}(h:Zbr xs src al ls){k:Nat}{a:Int}(ha:al[k]? = some a):∃ p,ls[k]? = some p/\ZaH p.2=Zcb xs a src:=by
 have h1:=congrArg (fun l=>l[k]?) h
 simp only [List.getElem?_map,ha,Option.map_some] at h1
 cases e:ls[k]? with
 | none=>rw [e] at h1;cases h1
 | some p=>rw [e] at h1;exact⟨p,rfl,by simpa using h1⟩
theorem Zbr.len {xs:List RecD}{src:Int}{al:List Int}{ls:List LP}(h:Zbr xs src al ls):ls.length=al.length:=by
 have:=congrArg List.length h
 simpa using this
theorem Zbr.push {xs:List RecD}{src:Int}{al:List Int}{ls:List LP}{k:Nat}{a:Int}{p:LP}(h:Zbr xs src (al.take k) ls)(ha:al[k]? = some a)(hp:ZaH p.2=Zcb xs a src):Zbr xs src (al.take (k+1)) (ls++[p]):=by
 obtain⟨hk,e⟩:=List.getElem?_eq_some_iff.1 ha;unfold Zbr;rw [List.take_succ_eq_append_getElem hk,e,List.map_append,List.map_append,h];simp [hp]
theorem Zg2 {xs:List RecD}{a src:Int}{ps:List WP}(h:ZaH ps=Zcb xs a src):totW ps<=42:=by
 have hw:=Zcs xs a src;refine ZiM ?_ (fun d hd=>(hw.2 d (by rw [<-h];exact hd)).1.len)
 have:=Zgw hw.1 (fun d hd=>(hw.2 d hd).1.node)
 rw [<-h] at this
 simpa [ZaH] using this
theorem ZkP (W:World)(lo:Nat)(hb:lo<=W.heap.size):WLs (W.alloc (.cells #[] 178)) lo (W.alloc (.cells #[] 178)).heap.size (.slice (some ⟨W.heap.size,0,none⟩) 0 0) []:=by
 have h:(W.alloc (.cells #[] 178)).ownsRow lo 178 1 (.slice (some ⟨W.heap.size,0,none⟩) 0 0) 0 (flat ZgH []):=World.ownsRow_lit W #[] 0 hb (by unfold maxLen;omega) (by simp)
 exact⟨h,fun k hk=>(h.lt k hk).2,by simp⟩
theorem Tryz.infoWayS:(Tryz.prog.info? 178).map (fun i=>(i.zero,i.size,i.bytes))=some (some (.slice none 0 0),1,24):=by kernel_rfl
structure BoxSt (V W:World) (z:Nat) (b:WayD) (bv:Value):Prop where
 box:W.heap[z]? = some (.cells (wayC b bv) 183)
 own:W.ownsRow z 3 1 bv b.hops.length (flat intE b.hops)
 bel:Below z V W
 len:b.hops.length<=6
theorem BoxSt.below {V W W':World}{z:Nat}{b:WayD}{bv:Value}(h:BoxSt V W z b bv)(hb:Below W.heap.size W W'):BoxSt V W' z b bv:=
 ⟨(hb.block _ (Zab h.box)).trans h.box,Zah h.own hb (Nat.le_refl _),h.bel.trans (hb.mono (by have:=Zab h.box;omega)),h.len⟩
theorem BoxSt.put {V W:World}{z:Nat}{b:WayD}{bv:Value}(h:BoxSt V W z b bv)(hz:V.heap.size=z){d:WayD}{u:Value}(hu:W.ownsRow (z+1) 3 1 u d.hops.length (flat intE d.hops))(hl:d.hops.length<=6):BoxSt V (ZbT W z d u) z d u:=by
 have hb:=h.box;unfold wayC at hb;have hg:=ZbH W z d u;refine⟨Zh0 d u hb,?_,h.bel.grown hg (by have:=h.bel.size;omega) (fun k hk=>by simp at hk;omega),hl⟩
 refine Zal (hu.kept hg ?_) (by omega)
 cases hv:u.ownBlock with
 | none=>exact .inl rfl
 | some g=>exact .inr (fun e=>by have:=(hu.lt g hv).1;simp at e;omega)
theorem BoxSt.other {V W W':World}{z g:Nat}{b:WayD}{bv:Value}{cs:Array Value}{fr:Nat × Nat}(h:BoxSt V W z b bv)(hg:W.grownBy W' (some g))(hgz:z<g)(hbox:W.heap[g]? = some (.cells cs 183 fr))(hz:V.heap.size=z):BoxSt V W' z b bv:=
 ⟨(hg.block z (Zab h.box) (by simp;omega)).trans h.box,Zam h.own (fun j hj=>hg.block j (h.own.lt j hj).2 (fun e=>Zax h.own hbox (by decide) (by rw [hj];exact e.symm))),h.bel.grown hg (by have:=h.bel.size;omega) (fun k hk=>by simp at hk;omega),h.len⟩
theorem Zf7 {W W':World}{lo g:Nat}{u:Value}{l:List Int}(h:W.ownsRow lo 3 1 u l.length (flat intE l))(hg:W.grownBy W' (some g))(hlt:g<lo):W'.ownsRow lo 3 1 u l.length (flat intE l):=
 Zam h (fun j hj=>hg.block j (h.lt j hj).2 (fun e=>by have:=(h.lt j hj).1;simp at e;omega))
def ZeI (to:Int)(S:WayD->Prop)(E:WayD)(fv:Value):Prop:=∃ F:Bool,fv=.bool F/\ZaI to S (if F then some E else none)
theorem ZeI.of {to:Int}{S:WayD->Prop}{E:WayD}{F:Bool}(h:ZaI to S (if F then some E else none)):ZeI to S E (.bool F):=⟨F,rfl,h⟩
theorem ZlI (v uw:Value)(ps:List RP)(ws:List WP)(hi lo2 hi2 lo:Nat)(area src to:Int)(b0:WayD)(bv0:Value)(F0:Bool)(w:World)(S0:WayD->Prop)(hv:RecsIn w hi v ps)(hhi:hi<=w.heap.size)(hn:tot ps<=1048576)
  (hw:WaysOwn w lo2 hi2 uw ws) (hhi2:hi2<=w.heap.size) (hws:ZaH ws=Zcb (fsts ps) area src) (hst:Zaw (fsts ps)=true) (hbo:ZaI to S0 (if F0 then some b0 else none)) (hS0:∀ d,S0 d->GoodW d/\d.to=to) (hb0:w.ownsRow lo 3 1 bv0 b0.hops.length (flat intE b0.hops)) (hlo:lo<=w.heap.size) (hl0:b0.hops.length<=6):
  Calls Tryz.prog 149 #[v,uw,.int .i64 area,.int .i64 src,.int .i64 to,.agg (wayC b0 bv0),.bool F0] w fun e w'=>∃ (E:WayD) (u fv:Value),e=.returned (.tuple #[.agg (wayC E u),fv])/\ZeI to (fun d=>S0 d\/outS (fsts ps) (fsts ps) area src to d) E fv/\w'.ownsRow lo 3 1 u E.hops.length (flat intE E.hops)/\E.hops.length<=6/\Below w.heap.size w w':=by
 have hnl:=Za3 ps;obtain⟨a1,c1,rfl⟩:=Zac hv.row;obtain⟨a2,c2,rfl⟩:=Zac hw.row;obtain⟨a3,c3,rfl⟩:=Zac hb0;have hwt:totW ws<=1048576:=by have:=Zg2 hws;omega
 have BX:Below w.heap.size w ((w.alloc (.cells #[.int .i64 b0.to,.int .i64 b0.cost,.slice a3 b0.hops.length c3] 183)).alloc (.cells #[.int .i64 0,.int .i64 0,.slice none 0 0] 183)):=ZaW _ _;have q0:((w.alloc (.cells #[.int .i64 b0.to,.int .i64 b0.cost,.slice a3 b0.hops.length c3] 183)).alloc (.cells #[.int .i64 0,.int .i64 0,.slice none 0 0] 183)).heap[w.heap.size]? = some (.cells #[.int .i64 b0.to,.int .i64 b0.cost,.slice a3 b0.hops.length c3] 183):=by
  rw [Below.heap_alloc _ _ _ (by simp),heap_alloc_new]
 have q1:((w.alloc (.cells #[.int .i64 b0.to,.int .i64 b0.cost,.slice a3 b0.hops.length c3] 183)).alloc (.cells #[.int .i64 0,.int .i64 0,.slice none 0 0] 183)).heap[w.heap.size+1]? = some (.cells #[.int .i64 0,.int .i64 0,.slice none 0 0] 183):=by
  have e:=heap_alloc_new (w.alloc (.cells #[.int .i64 b0.to,.int .i64 b0.cost,.slice a3 b0.hops.length c3] 183)) (.cells #[.int .i64 0,.int .i64 0,.slice none 0 0] 183);rw [show (w.alloc (.cells #[.int .i64 b0.to,.int .i64 b0.cost,.slice a3 b0.hops.length c3] 183)).heap.size=w.heap.size+1 by simp] at e
  exact e
 have hs2:((w.alloc (.cells #[.int .i64 b0.to,.int .i64 b0.cost,.slice a3 b0.hops.length c3] 183)).alloc (.cells #[.int .i64 0,.int .i64 0,.slice none 0 0] 183)).heap.size=w.heap.size+2:=by simp
 obtain⟨w0,hw0⟩:∃ W,W=((w.alloc (.cells #[.int .i64 b0.to,.int .i64 b0.cost,.slice a3 b0.hops.length c3] 183)).alloc (.cells #[.int .i64 0,.int .i64 0,.slice none 0 0] 183)):=⟨_,rfl⟩;rw [<-hw0] at BX q0 q1 hs2;have HBX0:=hide (show BoxT w0 w.heap.size lo b0 (.slice a3 b0.hops.length c3) from ⟨q0,Zah hb0 BX (Nat.le_refl _),hl0⟩)
 have HQ1:=hide q1;have HV:=hide hv;have HWT:=hide (fun (z:Int) (W:World) (hb:Below w.heap.size w W)=>Zch (.slice a2 ws.length c2) ws lo2 hi2 z W (hw.below hb hhi2) (Nat.le_trans hhi2 hb.size) hwt)
 have HB0:=hide (show ZaI to (fun d=>S0 d\/outS (fsts ps) ((fsts ps).take 0) area src to d) (if F0 then some b0 else none) from hbo.congr (fun d=>⟨.inl,by rintro (h | ⟨_,r,h,_⟩);exact h;simp at h⟩))
 have HS2:=hide hs2;unfold wayC;clear hv hw hb0 q0 q1 hbo hs2
 go_enter Tryz.func149,Tryz.ntmps149
 go_wp2
 rw [<-hw0];clear hw0
 go_loopw [16,6] (fun i f wr=>∃ (k:Nat) (F:Bool) (b:WayD) (bv:Value),k<=ps.length/\i=.int .i64 (k:Int)/\f=.bool F/\BoxT wr w.heap.size lo b bv/\wr.heap[w.heap.size+1]? = some (.cells #[.int .i64 0,.int .i64 0,.slice none 0 0] 183)/\Hid (ZaI to (fun d=>S0 d\/outS (fsts ps) ((fsts ps).take k) area src to d) (if F then some b else none))/\Below w.heap.size w wr/\w.heap.size+2<=wr.heap.size) (fun i _ _=>ps.length-(intOf i).toNat)
 case atStart=>exact ⟨0,F0,b0,_,by omega,rfl,rfl,HBX0.out,HQ1.out,HB0,BX,by have:=HS2.out;omega⟩
 case round=>
  obtain⟨k,F,b,bv,hk,rfl,rfl,hbx,hrz,HBO,hnx,hsz⟩:=hrel;clear HBX0 HQ1 HB0 HS2 BX;obtain⟨ba,bc,rfl⟩:=Zac hbx.own;by_cases hlt:k<ps.length
  ·obtain ⟨p,hp⟩:∃ p,ps[k]? = some p:=⟨ps[k],List.getElem?_eq_getElem hlt⟩
   obtain⟨bb,off,cap',hve,hbb,c0,c1,c2,c3,c4,c5,c6,c7,hnr⟩:=HV.out.at.cells k p hp;cases hve
   obtain⟨pa,pc,hpn⟩:=ZaA.shape hnr;rw [hpn] at c5;rw [<-hnx.cell (p:=⟨bb,off+k*8,none⟩) (Nat.lt_of_lt_of_le hbb hhi)] at c0;rw [<-hnx.cell (p:=⟨bb,off+k*8+1,none⟩) (Nat.lt_of_lt_of_le hbb hhi)] at c1;rw [<-hnx.cell (p:=⟨bb,off+k*8+2,none⟩) (Nat.lt_of_lt_of_le hbb hhi)] at c2;rw [<-hnx.cell (p:=⟨bb,off+k*8+3,none⟩) (Nat.lt_of_lt_of_le hbb hhi)] at c3;rw [<-hnx.cell (p:=⟨bb,off+k*8+4,none⟩) (Nat.lt_of_lt_of_le hbb hhi)] at c4;rw [<-hnx.cell (p:=⟨bb,off+k*8+5,none⟩) (Nat.lt_of_lt_of_le hbb hhi)] at c5;rw [<-hnx.cell (p:=⟨bb,off+k*8+6,none⟩) (Nat.lt_of_lt_of_le hbb hhi)] at c6;rw [<-hnx.cell (p:=⟨bb,off+k*8+7,none⟩) (Nat.lt_of_lt_of_le hbb hhi)] at c7;have HPP:=hide (ZbB hp);have hpm:p.1∈fsts ps:=List.mem_of_getElem? (ZbB hp);have BAL:Below wr.heap.size wr (wr.alloc (.cells #[.int .i64 p.1.area,.int .i64 p.1.kind,.int .i64 p.1.owner,.int .i64 p.1.key,.int .i64 p.1.seq,.slice pa p.1.near.length pc,.int .i64 p.1.cost,.bool p.1.far] 40)):=(Below.refl _ _).alloc (Nat.le_refl _) _;have hxl:=heap_alloc_new wr (.cells #[.int .i64 p.1.area,.int .i64 p.1.kind,.int .i64 p.1.owner,.int .i64 p.1.key,.int .i64 p.1.seq,.slice pa p.1.near.length pc,.int .i64 p.1.cost,.bool p.1.far] 40);obtain⟨wl,hwl⟩:∃ W,W=(wr.alloc (.cells #[.int .i64 p.1.area,.int .i64 p.1.kind,.int .i64 p.1.owner,.int .i64 p.1.key,.int .i64 p.1.seq,.slice pa p.1.near.length pc,.int .i64 p.1.cost,.bool p.1.far] 40)):=⟨_,rfl⟩;rw [<-hwl] at BAL hxl;have hki:(0:Int)<=(k:Int):=by omega
   have hkj:(k:Int)<(ps.length:Int):=by omega
   clear hp hnr hpn;by_cases hK:p.1.kind=2
   case neg=>
    have hd:(p.1.kind != 2)=true:=by simpa using hK
    have HhK:=hide hK;clear hK;have HN:=hide (Zbv HPP.out HBO.out (fun d hdt ht=>HhK.out ht.1))
    have HBX:=hide (hbx.below BAL);have HRZ:=hide ((BAL.block _ (by have:=Zab hrz;omega)).trans hrz)
    have BN:=hide (hnx.trans (BAL.mono hnx.size));rw [hwl] at HBX HRZ BN;have hszn:w.heap.size+2<=(wr.alloc (.cells #[.int .i64 p.1.area,.int .i64 p.1.kind,.int .i64 p.1.owner,.int .i64 p.1.key,.int .i64 p.1.seq,.slice pa p.1.near.length pc,.int .i64 p.1.cost,.bool p.1.far] 40)).heap.size:=by simp;omega
    clear hbx hrz HBO HPP HWT BAL hwl
    go_wp2
    go_roundw
    case rel=>exact ⟨k+1,F,b,_,by omega,by go_num,rfl,HBX.out,HRZ.out,HN,BN.out,hszn⟩
    case measure=>simp [intOf];omega
   have hdK:(p.1.kind != 2)=false:=by simpa using hK
   have HhK:=hide hK;clear hK;by_cases hA:p.1.area=area
   case neg=>
    have hd:(p.1.area != area)=true:=by simpa using hA
    have HhA:=hide hA;clear hA;have HN:=hide (Zbv HPP.out HBO.out (fun d hdt ht=>HhA.out ht.2.1))
    have HBX:=hide (hbx.below BAL);have HRZ:=hide ((BAL.block _ (by have:=Zab hrz;omega)).trans hrz)
    have BN:=hide (hnx.trans (BAL.mono hnx.size));rw [hwl] at HBX HRZ BN;have hszn:w.heap.size+2<=(wr.alloc (.cells #[.int .i64 p.1.area,.int .i64 p.1.kind,.int .i64 p.1.owner,.int .i64 p.1.key,.int .i64 p.1.seq,.slice pa p.1.near.length pc,.int .i64 p.1.cost,.bool p.1.far] 40)).heap.size:=by simp;omega
    clear hbx hrz HBO HPP HWT BAL hwl
    go_wp2
    go_roundw
    case rel=>exact ⟨k+1,F,b,_,by omega,by go_num,rfl,HBX.out,HRZ.out,HN,BN.out,hszn⟩
    case measure=>simp [intOf];omega
   have hdA:(p.1.area != area)=false:=by simpa using hA
   have HhA:=hide hA;clear hA;by_cases hY:p.1.key=to
   case neg=>
    have hd:(p.1.key != to)=true:=by simpa using hY
    have HhY:=hide hY;clear hY;have HN:=hide (Zbv HPP.out HBO.out (fun d hdt ht=>HhY.out (by obtain ⟨_,_,_,v,_,_,rfl⟩:=ht;exact hdt)))
    have HBX:=hide (hbx.below BAL);have HRZ:=hide ((BAL.block _ (by have:=Zab hrz;omega)).trans hrz)
    have BN:=hide (hnx.trans (BAL.mono hnx.size));rw [hwl] at HBX HRZ BN;have hszn:w.heap.size+2<=(wr.alloc (.cells #[.int .i64 p.1.area,.int .i64 p.1.kind,.int .i64 p.1.owner,.int .i64 p.1.key,.int .i64 p.1.seq,.slice pa p.1.near.length pc,.int .i64 p.1.cost,.bool p.1.far] 40)).heap.size:=by simp;omega
    clear hbx hrz HBO HPP HWT BAL hwl
    go_wp2
    go_roundw
    case rel=>exact ⟨k+1,F,b,_,by omega,by go_num,rfl,HBX.out,HRZ.out,HN,BN.out,hszn⟩
    case measure=>simp [intOf];omega
   have hdY:(p.1.key != to)=false:=by simpa using hY
   have HhY:=hide hY;clear hY;by_cases hO:p.1.owner=src
   case pos=>
    have hd:(p.1.owner==src)=true:=by simpa using hO
    have HhO:=hide hO;clear hO;have HN:=hide (Zbv HPP.out HBO.out (fun d hdt ht=>ht.2.2.1 HhO.out))
    have HBX:=hide (hbx.below BAL);have HRZ:=hide ((BAL.block _ (by have:=Zab hrz;omega)).trans hrz)
    have BN:=hide (hnx.trans (BAL.mono hnx.size));rw [hwl] at HBX HRZ BN;have hszn:w.heap.size+2<=(wr.alloc (.cells #[.int .i64 p.1.area,.int .i64 p.1.kind,.int .i64 p.1.owner,.int .i64 p.1.key,.int .i64 p.1.seq,.slice pa p.1.near.length pc,.int .i64 p.1.cost,.bool p.1.far] 40)).heap.size:=by simp;omega
    clear hbx hrz HBO HPP HWT BAL hwl
    go_wp2
    go_roundw
    case rel=>exact ⟨k+1,F,b,_,by omega,by go_num,rfl,HBX.out,HRZ.out,HN,BN.out,hszn⟩
    case measure=>simp [intOf];omega
   have hdO:(p.1.owner==src)=false:=by simpa using hO
   have HhO:=hide hO;clear hO;have hrb:=Zgb hst hpm HhK.out;by_cases hC:60000<=p.1.cost
   case pos=>
    have HN:=hide (Zbv HPP.out HBO.out (fun d hdt ht=>by obtain ⟨_,_,_,v,h4,h5,_⟩:=ht;have:=((Zcs (fsts ps) area src).2 v (Zbp h4).1).1.cost;omega))
    have HBX:=hide (hbx.below BAL);have HRZ:=hide ((BAL.block _ (by have:=Zab hrz;omega)).trans hrz)
    have BN:=hide (hnx.trans (BAL.mono hnx.size));rw [hwl] at HBX HRZ BN;have hszn:w.heap.size+2<=(wr.alloc (.cells #[.int .i64 p.1.area,.int .i64 p.1.kind,.int .i64 p.1.owner,.int .i64 p.1.key,.int .i64 p.1.seq,.slice pa p.1.near.length pc,.int .i64 p.1.cost,.bool p.1.far] 40)).heap.size:=by simp;omega
    clear hbx hrz HBO HPP HWT BAL hwl
    go_wp2
    go_roundw
    case rel=>exact ⟨k+1,F,b,_,by omega,by go_num,rfl,HBX.out,HRZ.out,HN,BN.out,hszn⟩
    case measure=>simp [intOf];omega
   have hfd:=ZcS (ZaH ws) p.1.owner;rw [hws] at hfd;have HW:=HWT.out p.1.owner wl (hnx.trans (BAL.mono hnx.size));rw [hws] at HW;obtain⟨D,hD⟩:∃ D,D=ZbX (Zcb (fsts ps) area src) p.1.owner:=⟨_,rfl⟩;obtain⟨FB,hFB⟩:∃ F,F=ZbD (Zcb (fsts ps) area src) p.1.owner:=⟨_,rfl⟩;rw [<-hD, <-hFB] at HW hfd;have hx2:=Zaa hxl 2;simp at hx2
   have HXL:=hide hxl;rw [hwl] at hx2;have HWW:=hide HW;have HFD:=hide hfd;have HBX:=hide (hbx.below BAL);have HRZ:=hide ((BAL.block _ (by have:=Zab hrz;omega)).trans hrz)
   have HBL:=hide BAL;have hsl:=BAL.size;unfold wayC at HWW;clear HW hfd hD hFB hbx hrz hxl BAL
   go_wp2_with fail
   rw [<-hwl];clear hwl hx2;refine HWW.out.mono ?_
   rintro e w3 ⟨du,rfl,hdu,b3⟩;obtain⟨da,dc,rfl⟩:=Zac hdu;have hb3:=b3.size;have BW3:Below w.heap.size w w3:=hnx.trans ((HBL.out.mono hnx.size).trans (b3.mono (by have:=hnx.size;omega)))
   have hbx3:=HBX.out.below b3;have hrz3:=(b3.block _ (Zab HRZ.out)).trans HRZ.out;have hxl3:=(b3.block _ (Zab HXL.out)).trans HXL.out;have hwl3:=Zab HXL.out;have HBA:=hide (fun o=>hbx3.below ((Below.refl w3.heap.size w3).alloc (Nat.le_refl _) o))
   have HZA:=hide (fun o=>(((Below.refl w3.heap.size w3).alloc (Nat.le_refl _) o).block _ (Zab hrz3)).trans hrz3)
   have HWA:=hide (fun o=>BW3.trans (((Below.refl w3.heap.size w3).alloc (Nat.le_refl _) o).mono BW3.size))
   have HDA:=hide (fun o=>Zah hdu ((Below.refl w3.heap.size w3).alloc (Nat.le_refl _) o) (Nat.le_refl _))
   have HXA:=hide (fun o=>by
    have h:=Zaa ((((Below.refl w3.heap.size w3).alloc (Nat.le_refl _) o).block _ (Zab hxl3)).trans hxl3) 6;simp at h
    exact h)
   have HB3:=hide hbx3;have HZ3:=hide hrz3;have HD3:=hide hdu;have HW3:=hide BW3;have hz3:w.heap.size<w3.heap.size:=Zab hbx3.box;have hzne:w.heap.size≠w3.heap.size:=by omega
   clear hdu b3 hbx3 hrz3 hxl3 HWW HBX HRZ HXL HBL BW3;cases FB
   ·have HN:=hide (Zbv HPP.out HBO.out (fun d hdt ht=>by
     obtain⟨_,_,_,v,h4,_⟩:=ht
     rcases HFD.out with ⟨h1,_⟩ | ⟨_,h2⟩
     ·cases h1
     ·rw [h2] at h4;cases h4))
    have N1:=hide (HBA.out (.cells #[.int .i64 D.to,.int .i64 D.cost,.slice da D.hops.length dc] 183));have N2:=hide (HZA.out (.cells #[.int .i64 D.to,.int .i64 D.cost,.slice da D.hops.length dc] 183));have N3:=hide (HWA.out (.cells #[.int .i64 D.to,.int .i64 D.cost,.slice da D.hops.length dc] 183));have hszn:w.heap.size+2<=(w3.alloc (.cells #[.int .i64 D.to,.int .i64 D.cost,.slice da D.hops.length dc] 183)).heap.size:=by simp;omega
    clear HBA HZA HWA HDA HXA HBO HPP HFD HWT
    go_wp2
    go_roundw
    case rel=>exact ⟨k+1,F,b,_,by omega,by go_num,rfl,N1.out,N2.out,HN,N3.out,hszn⟩
    case measure=>simp [intOf];omega
   ·have hfound:Zcc (Zcb (fsts ps) area src) p.1.owner=some D:=by
     rcases HFD.out with ⟨_,h2⟩ | ⟨h1,_⟩
     ·exact h2
     ·cases h1
    have hDg:=(Zcs (fsts ps) area src).2 D (Zbp hfound).1;have hD0:=hDg.1.cost;have hD6:=hDg.1.len;have hDc:=hDg.2;have x1:=HXA.out (.cells #[.int .i64 D.to,.int .i64 D.cost,.slice da D.hops.length dc] 183);by_cases hsum:60000<=D.cost+p.1.cost
    ·have HN:=hide (Zbv HPP.out HBO.out (fun d hdt ht=>by
      obtain⟨_,_,_,v,h4,h5,_⟩:=ht;rw [hfound] at h4;cases h4
      omega))
     have N1:=hide (HBA.out (.cells #[.int .i64 D.to,.int .i64 D.cost,.slice da D.hops.length dc] 183));have N2:=hide (HZA.out (.cells #[.int .i64 D.to,.int .i64 D.cost,.slice da D.hops.length dc] 183));have N3:=hide (HWA.out (.cells #[.int .i64 D.to,.int .i64 D.cost,.slice da D.hops.length dc] 183));have hszn:w.heap.size+2<=(w3.alloc (.cells #[.int .i64 D.to,.int .i64 D.cost,.slice da D.hops.length dc] 183)).heap.size:=by simp;omega
     clear HBA HZA HWA HDA HXA HBO HPP HFD HWT hfound hDg
     go_wp2
     go_roundw
     case rel=>exact ⟨k+1,F,b,_,by omega,by go_num,rfl,N1.out,N2.out,HN,N3.out,hszn⟩
     case measure=>simp [intOf];omega
    ·have htell:ZdO (fsts ps) area src p.1 ⟨to,D.cost+p.1.cost,D.hops⟩:=⟨HhK.out,HhA.out,HhO.out,D,hfound,by omega,by rw [HhY.out]⟩
     have HBN:=hide (ZhX ZkH hS0 HPP.out HBO.out htell rfl);have x2:=HXA.out (.cells #[.int .i64 to,.int .i64 D.cost,.slice da D.hops.length dc] 183);have N1:=HBA.out (.cells #[.int .i64 to,.int .i64 (D.cost+p.1.cost),.slice da D.hops.length dc] 183);have N2:=HZA.out (.cells #[.int .i64 to,.int .i64 (D.cost+p.1.cost),.slice da D.hops.length dc] 183);have N3:=HWA.out (.cells #[.int .i64 to,.int .i64 (D.cost+p.1.cost),.slice da D.hops.length dc] 183);have N4:=HDA.out (.cells #[.int .i64 to,.int .i64 (D.cost+p.1.cost),.slice da D.hops.length dc] 183);have hx4:=heap_alloc_new w3 (.cells #[.int .i64 to,.int .i64 (D.cost+p.1.cost),.slice da D.hops.length dc] 183);have hs4:(w3.alloc (.cells #[.int .i64 to,.int .i64 (D.cost+p.1.cost),.slice da D.hops.length dc] 183)).heap.size=w3.heap.size+1:=by simp
     have hsm:D.cost+p.1.cost<60000:=by omega
     clear htell hfound hDg HFD HWT HPP HBO HBA HZA HWA HDA HXA hsum;have hzb:=N1.box;unfold wayC at hzb;have e0:=Zaa hzb 0;have e1:=Zaa hzb 1;have e2:=Zaa hzb 2;simp at e0 e1 e2
     have fe:=Zae hzb;cases F
     ·have HN:=hide (show ZaI to (fun d=>S0 d\/outS (fsts ps) ((fsts ps).take (k+1)) area src to d) (if true then some (⟨to,D.cost+p.1.cost,D.hops⟩:WayD) else none) from HBN.out)
      have P3:=(HB3.out.put (d:=⟨to,D.cost+p.1.cost,D.hops⟩) (Zal (b0:=lo) HD3.out (by omega)) hD6)
      have B3:=HW3.out.grown (ZbH w3 w.heap.size ⟨to,D.cost+p.1.cost,D.hops⟩ (.slice da D.hops.length dc)) HW3.out.size (fun j hj=>by simp at hj;omega)
      have Z3:=ZdG (z:=w.heap.size) (d:=⟨to,D.cost+p.1.cost,D.hops⟩) (u:=.slice da D.hops.length dc) HZ3.out (by omega)
      have M1:=hide (P3.below ((Below.refl _ _).alloc (Nat.le_refl _) (.cells #[.int .i64 to,.int .i64 (D.cost+p.1.cost),.slice da D.hops.length dc] 183)));have M2:=hide ((((Below.refl _ _).alloc (Nat.le_refl _) (.cells #[.int .i64 to,.int .i64 (D.cost+p.1.cost),.slice da D.hops.length dc] 183)).block _ (Zab Z3)).trans Z3);have M3:=hide (B3.trans (((Below.refl _ _).alloc (Nat.le_refl _) (.cells #[.int .i64 to,.int .i64 (D.cost+p.1.cost),.slice da D.hops.length dc] 183)).mono B3.size));have hszn:w.heap.size+2<=((ZbT w3 w.heap.size ⟨to,D.cost+p.1.cost,D.hops⟩ (.slice da D.hops.length dc)).alloc (.cells #[.int .i64 to,.int .i64 (D.cost+p.1.cost),.slice da D.hops.length dc] 183)).heap.size:=by simp;omega
      have hzb3:=HB3.out.box;unfold wayC at hzb3;clear e0 e1 e2 fe;have e0:=Zaa hzb3 0;have e1:=Zaa hzb3 1;have e2:=Zaa hzb3 2;simp at e0 e1 e2
      have fe:=Zae hzb3;clear N1 N2 N3 N4 HBN hzb hx4 P3 B3 Z3 HB3 HZ3 HD3 HW3 hzb3 hs4
      go_wp2
      go_roundw
      case rel=>exact ⟨k+1,true,⟨to,D.cost+p.1.cost,D.hops⟩,_,by omega,by go_num,rfl,M1.out,M2.out,HN,M3.out,hszn⟩
      case measure=>simp [intOf];omega
     ·have HTG:=Zi2 b ⟨to,D.cost+p.1.cost,D.hops⟩ (.slice ba b.hops.length bc) (.slice da D.hops.length dc) lo wl.heap.size _ N1.own N4 (by have:=N1.len;omega) (by show D.hops.length<=1048576;omega)
      unfold wayC at HTG;simp only [] at HTG
      obtain⟨E,hE⟩:∃ E,E=togD b ⟨to,D.cost+p.1.cost,D.hops⟩:=⟨_,rfl⟩;rw [<-hE] at HTG;have hE6:E.hops.length<=6:=by rw [hE];exact ZkI N1.len hD6 (by omega)
      have HN:=hide (show ZaI to (fun d=>S0 d\/outS (fsts ps) ((fsts ps).take (k+1)) area src to d) (if true then some E else none) by
       have h:=HBN.out;rw [hE];exact h)
      have HT:=hide HTG;clear HB3 HZ3 HD3 HW3;have HN1:=hide N1;have HN2:=hide N2;have HN3:=hide N3;have HX4:=hide hx4;clear HTG HBN hE N1 N2 N3 N4 hzb hx4
      go_wp2_with fail
      refine HT.out.mono ?_
      rintro e w5 ⟨eu,rfl,heu,b5⟩;obtain⟨ea,ec,rfl⟩:=Zac heu;have hb5:=b5.size;have hx5:=(b5.block _ (Zab HX4.out)).trans HX4.out;have hbx5:=HN1.out.below b5;have hrz5:=(b5.block _ (Zab HN2.out)).trans HN2.out;have B5:Below w.heap.size w w5:=HN3.out.trans (b5.mono HN3.out.size);have hzb5:=hbx5.box;unfold wayC at hzb5;clear e0 e1 e2 fe x1 x2;have d0:=Zaa hx5 0;have d1:=Zaa hx5 1;have d2:=Zaa hx5 2;simp at d0 d1 d2
      have e0:=Zaa hzb5 0;have e1:=Zaa hzb5 1;have e2:=Zaa hzb5 2;simp at e0 e1 e2
      have fd:=Zae hx5;have fe:=Zae hzb5;have hg14:=ZbH w5 w3.heap.size E (.slice ea E.hops.length ec);have heu2:(ZbT w5 w3.heap.size E (.slice ea E.hops.length ec)).ownsRow lo 3 1 (.slice ea E.hops.length ec) E.hops.length (flat intE E.hops):=Zal (Zf7 heu hg14 (by rw [hs4];omega)) (by rw [hs4];omega)
      have M1:=hide ((hbx5.other hg14 (by omega) hx5 (by decide)).put heu2 hE6)
      have M2:=hide (ZdG (z:=w.heap.size) (d:=E) (u:=.slice ea E.hops.length ec) (ZdG (z:=w3.heap.size) (d:=E) (u:=.slice ea E.hops.length ec) hrz5 (by omega)) (by omega))
      have M3:=hide ((B5.grown hg14 B5.size (fun j hj=>by simp at hj;omega)).grown (ZbH _ w.heap.size E (.slice ea E.hops.length ec)) (by have:=hg14.size;omega) (fun j hj=>by simp at hj;omega))
      have hszn:w.heap.size+2<=(ZbT (ZbT w5 w3.heap.size E (.slice ea E.hops.length ec)) w.heap.size E (.slice ea E.hops.length ec)).heap.size:=by rw [hs4] at hb5;simp;omega
      clear HN1 HN2 HN3 HX4 HT hx5 hbx5 hrz5 hzb5 heu b5 hg14 heu2 B5 hs4 hb5
      go_wp2
      go_roundw
      case rel=>exact ⟨k+1,true,E,_,by omega,by go_num,rfl,M1.out,M2.out,HN,M3.out,hszn⟩
      case measure=>simp [intOf];omega
  ·have hkn:¬(k:Int)<(ps.length:Int):=by omega
   have HBF:=hide (show ZaI to (fun d=>S0 d\/outS (fsts ps) (fsts ps) area src to d) (if F then some b else none) by
    have h:=HBO.out;rw [List.take_of_length_le (by simp [fsts];omega)] at h
    exact h)
   have hzb:=hbx.box;unfold wayC at hzb;have e0:=Zaa hzb 0;have e1:=Zaa hzb 1;have e2:=Zaa hzb 2;simp at e0 e1 e2
   have y0:=Zaa hrz 0;have y1:=Zaa hrz 1;have y2:=Zaa hrz 2;simp at y0 y1 y2
   have fy:=Zae hrz;have FF:=hide (Zh0 b (.slice ba b.hops.length bc) hrz);have hg:=ZbH wr (w.heap.size+1) b (.slice ba b.hops.length bc);have hbx2:=hbx.other hg (by omega) hrz (by decide)
   have HO:=hide hbx2.own;have HL:=hide hbx2.len;have HB:=hide (hnx.grown hg hnx.size (fun j hj=>by simp at hj;omega))
   clear hbx hrz hbx2 hg hzb HBO
   go_wp2_with fail
   (try simp only [Exit.inBlock,Exit.then])
   refine bodyPost_ret (Zbx rfl _ _ (w.heap.size+1) 183 (wayC b (.slice ba b.hops.length bc)) (0,0) _ rfl FF.out Tryz.underlying183 rfl (by kernel_rfl)) rfl ?_
   exact⟨b,_,.bool F,rfl,ZeI.of HBF.out,HO.out,HL.out,HB.out⟩
end Go.Proofs.YtcimbiinljcifaaGreat
