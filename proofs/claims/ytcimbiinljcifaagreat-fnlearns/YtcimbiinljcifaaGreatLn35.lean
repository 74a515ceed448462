/-
  SelfOkI LnMath
-/
import Derived.Test.YtcimbiinljcifaaGreatLn3
import Derived.Test.YtcimbiinljcifaaGreatLn34
import Derived.Test.YtcimbiinljcifaaGreatLn17
import Derived.Test.YtcimbiinljcifaaGreatLn8
import Derived.Test.YtcimbiinljcifaaGreatLn21
namespace Go.Proofs.YtcimbiinljcifaaGreat
open Go.RowKit
set_option linter.unusedSimpArgs false
set_option linter.unusedVariables false
set_option maxRecDepth 100000
set_option maxHeartbeats 8000000
def ZcE (x:SelfD)(ps:List RP):Bool:=ZaV x.net&&(inB x.id 1 x.net.n&&(inB x.boot 0 90&&(Zck x.net.ls x.id x.heard&&Zaw (fsts ps))))
theorem Zfa (v1 v2 v3 v4:Value)(x:SelfD)(ps:List RP)(w:World)(ht:totS x ps<=1048576)(hv:SelfIn w v1 v2 v3 v4 x ps w.heap.size):
  Calls Tryz.prog 11 #[ZdL x v1 v2 v3 v4] w fun e w'=>e=.returned (.bool (ZcE x ps))/\Below w.heap.size w w':=by
 obtain⟨⟨a1,c1,rfl⟩,⟨a2,c2,rfl⟩,⟨a3,c3,rfl⟩,⟨a4,c4,rfl⟩⟩:=hv.shapes;have hlL:x.net.ls.length<=1048576:=by unfold totS at ht;omega
 have hlT:x.net.ts.length<=1048576:=by unfold totS at ht;omega
 have hlH:x.heard.length<=1048576:=by unfold totS at ht;omega
 have hlR:tot ps<=1048576:=by unfold totS at ht;omega
 have HX:=hide hv;clear hv ht;have BA:Below w.heap.size w (w.alloc (.cells #[.int .i64 x.id,.int .i64 x.boot,.int .i64 x.net.n,.slice a1 x.net.ls.length c1,.slice a2 x.net.ts.length c2,.slice a3 x.heard.length c3,.slice a4 ps.length c4] 31)):=(Below.refl _ _).alloc (Nat.le_refl _) _;have g0:=heap_alloc_new w (.cells #[.int .i64 x.id,.int .i64 x.boot,.int .i64 x.net.n,.slice a1 x.net.ls.length c1,.slice a2 x.net.ts.length c2,.slice a3 x.heard.length c3,.slice a4 ps.length c4] 31);obtain⟨r1,h1⟩:∃ r,r=ZaV x.net:=⟨_,rfl⟩;obtain⟨r2,h2⟩:∃ r,r=inB x.id 1 x.net.n:=⟨_,rfl⟩;obtain⟨r3,h3⟩:∃ r,r=inB x.boot 0 90:=⟨_,rfl⟩;obtain⟨r4,h4⟩:∃ r,r=Zck x.net.ls x.id x.heard:=⟨_,rfl⟩;obtain⟨r5,h5⟩:∃ r,r=Zaw (fsts ps):=⟨_,rfl⟩;have HS:=hide (show ZcE x ps=(r1&&(r2&&(r3&&(r4&&r5)))) by unfold ZcE;rw [h1,h2,h3,h4,h5])
 rw [HS.out];have HN:=hide (Zjh _ x.net (w.alloc (.cells #[.int .i64 x.id,.int .i64 x.boot,.int .i64 x.net.n,.slice a1 x.net.ls.length c1,.slice a2 x.net.ts.length c2,.slice a3 x.heard.length c3,.slice a4 ps.length c4] 31)) hlL hlT (HX.out.then BA).net);have HI1:=hide (ZaZ x.id 1 x.net.n);have HI2:=hide (ZaZ x.boot 0 90);have HHD:=hide (fun W (hb:Below w.heap.size w W)  => Zh3 _ _ _ _ x ps W hlL hlH (HX.out.then hb))
 have HST:=hide (fun W (hb:Below w.heap.size w W)=>Zhr _ ps W hlR (HX.out.then hb).store)
 rw [<-h1] at HN;rw [<-h2] at HI1;rw [<-h3] at HI2;rw [<-h4] at HHD;rw [<-h5] at HST;have G0:=hide g0;clear h1 h2 h3 h4 h5 HS g0
 go_enter Tryz.func11,Tryz.ntmps11
 go_wp2_with fail
 obtain⟨w0,hw0⟩:∃ W,W=w.alloc (.cells #[.int .i64 x.id,.int .i64 x.boot,.int .i64 x.net.n,.slice a1 x.net.ls.length c1,.slice a2 x.net.ts.length c2,.slice a3 x.heard.length c3,.slice a4 ps.length c4] 31):=⟨_,rfl⟩;rw [<-hw0] at BA G0 HN |-;clear hw0;refine HN.out.mono ?_
 rintro e w1 ⟨rfl,b1⟩;have g1:=(b1.block _ (Zab G0.out)).trans G0.out;have B1:Below w.heap.size w w1:=BA.trans (b1.mono BA.size);cases r1
 ·go_wp2
  go_ret
  exact⟨rfl,B1⟩
 have s0:=Zaa g1 0;have s1:=Zaa g1 1;have s2:=Zaa g1 2;have s3:=Zaa g1 3;have s4:=Zaa g1 4;have s5:=Zaa g1 5;have s6:=Zaa g1 6;simp at s0 s1 s2 s3 s4 s5 s6
 have G1:=hide g1;clear g1 b1 HN
 go_wp2_with fail
 refine (HI1.out _).mono ?_
 rintro e w2 ⟨rfl,rfl⟩;cases r2
 ·go_wp2
  go_ret
  exact⟨rfl,B1⟩
 go_wp2_with fail
 refine (HI2.out _).mono ?_
 rintro e w2 ⟨rfl,rfl⟩;cases r3
 ·go_wp2
  go_ret
  exact⟨rfl,B1⟩
 go_wp2_with fail
 refine (HHD.out _ B1).mono ?_
 rintro e w3 ⟨rfl,b3⟩
 skip
 have g3:=(b3.block _ (Zab G1.out)).trans G1.out;have B3:Below w.heap.size w w3:=B1.trans (b3.mono B1.size);cases r4
 ·clear s0 s1 s2 s3 s4 s5 s6
  go_wp2
  go_ret
  exact⟨rfl,B3⟩
 clear s0 s1 s2 s3 s4 s5 s6;have s6:=Zaa g3 6;simp at s6
 clear g3 b3
 go_wp2_with fail
 refine (HST.out _ B3).mono ?_
 rintro e w4 ⟨rfl,b4⟩;have B4:Below w.heap.size w w4:=B3.trans (b4.mono B3.size);clear b4
 go_wp2
 go_ret
 exact⟨by simp,B4⟩
theorem Zec {M:List RecD}{r:RecD}(hM:Asc M):ZaE M r=true↔Zas r=true/\((∃ y∈M,Zak y r=true/\y.seq<r.seq)\/((∀ y∈M,Zak y r=false)/\M.length<150)):=by
 constructor
 ·intro h
  have hr:=ZgZ h;refine⟨hr,?_⟩
  rcases ZbP M r with hz | ⟨j,y,hz,hy,hys⟩
  ·rw [ZcP hr hz] at h
   exact .inr ⟨ZhV hz,by simpa using h⟩
  ·exact .inl ⟨y,List.mem_of_getElem? hy,hys,ZcQ hM h (List.mem_of_getElem? hy) hys⟩
 ·rintro ⟨hr,h⟩
  rcases ZbP M r with hz | ⟨j,y,hz,hy,hys⟩
  ·rw [ZcP hr hz]
   rcases h with ⟨x,hx,hs,_⟩ | ⟨_,hl⟩
   ·rw [ZhV hz x hx] at hs;cases hs
   ·simpa using hl
  ·rw [Zeb hr hz hy]
   rcases h with ⟨x,hx,hs,hq⟩ | ⟨hn,_⟩
   ·have e:x=y:=Zgx hM hx (List.mem_of_getElem? hy) (Zby hs (Zb8 hys))
    rw [<-e]
    simpa using hq
   ·rw [hn y (List.mem_of_getElem? hy)] at hys;cases hys
theorem ZlG {r:RecD}:∀ {M:List RecD},Asc M->(M.filter (fun x=>Zak x r)).length<=1:=by
 intro M hM;have ha:Asc (M.filter (fun x=>Zak x r)):=Zeg hM _
 cases h:M.filter (fun x=>Zak x r) with
 | nil=>simp
 | cons x l=>
  cases l with
  | nil=>simp
  | cons y l=>
   exfalso
   have hx:x∈M.filter (fun x=>Zak x r):=by rw [h];simp
   have hy:y∈M.filter (fun x=>Zak x r):=by rw [h];simp
   have sx:=(List.mem_filter.1 hx).2;have sy:=(List.mem_filter.1 hy).2;rw [h] at ha;have hb:Zan x y=true:=(List.pairwise_cons.1 ha).1 y (by simp)
   have:=Zb5 hb;rw [Zby sx (Zb8 sy)] at this;cases this
theorem ZdP (r:RecD):∀ M:List RecD,(M.filter (fun x=>Zan x r)).length+(M.filter (fun x=>Zak x r)).length+(M.filter (fun x=>Zan r x)).length=M.length
 | []=>rfl
 | x::M=>by
  have ih:=ZdP r M;simp only [List.filter_cons,List.length_cons]
  rcases Zgz x r with h | h | h
  ·have h2:=Zb5 h
   have h3:=ZbY h;rw [h,h2,h3];simp
   omega
  ·have h2:=ZbQ h
   rw [h,h2.1,h2.2];simp
   omega
  ·have h2:=ZbY h
   have h3:Zak x r=false:=by
    cases e:Zak x r with
    | false=>rfl
    | true=>have:=Zb5 h;rw [Zb8 e] at this;cases this
   rw [h,h2,h3];simp
   omega
theorem ZiW (M:List RecD)(r:RecD):(putD M r).length=(M.filter (fun x=>Zan x r)).length+1+(M.filter (fun x=>Zan r x)).length:=by
 unfold putD;simp
 omega
theorem Zkn {M:List RecD}(hM:Asc M)(r:RecD):M.length<=(putD M r).length:=by
 have h1:=ZdP r M;have h2:=ZlG (r:=r) hM;rw [ZiW];omega
theorem Zko {M:List RecD}{r y:RecD}(hy:y∈M)(hs:Zak y r=true):(putD M r).length<=M.length:=by
 have h1:=ZdP r M;have h2:0<(M.filter (fun x=>Zak x r)).length:=List.length_pos_of_mem (List.mem_filter.2 ⟨hy,hs⟩)
 rw [ZiW];omega
theorem ZhE {M:List RecD}{r y:RecD}(hM:Asc M)(ht:ZaE M r=true)(hy:y∈M):∃ z∈putD M r,Zak z y=true/\y.seq<=z.seq:=by
 rcases Zgz y r with h2 | h2 | h2
 ·exact ⟨y,ZbR.2 (.inl ⟨hy,h2⟩),Zcp y,Int.le_refl _⟩
 ·have h3:=ZcQ hM ht hy h2
  exact⟨r,ZbR.2 (.inr (.inl rfl)),Zb8 h2,by omega⟩
 ·exact ⟨y,ZbR.2 (.inr (.inr ⟨hy,h2⟩)),Zcp y,Int.le_refl _⟩
theorem Ziq {M:List RecD}{x r:RecD}(hM:Asc M)(h:ZaE M x=false):ZaE (Za7 M r) x=false:=by
 cases ht:ZaE M r with
 | false=>
  have e:Za7 M r=M:=by unfold Za7;rw [ht];rfl
  rw [e];exact h
 | true=>
  have e:Za7 M r=putD M r:=by unfold Za7;rw [ht];rfl
  rw [e];cases hx:ZaE (putD M r) x with
  | false=>rfl
  | true=>
   exfalso
   obtain⟨hok,hc⟩:=(Zec (ZcW hM r)).1 hx;have no:¬((∃ y∈M,Zak y x=true/\y.seq<x.seq)\/((∀ y∈M,Zak y x=false)/\M.length<150)):=fun hh=>by
    have:=(Zec hM).2 ⟨hok,hh⟩;rw [h] at this;cases this
   rcases hc with ⟨y,hy,hs,hq⟩ | ⟨hn,hl⟩
   ·rcases ZbR.1 hy with h1 | h1 | h1
    ·exact no (.inl ⟨y,h1.1,hs,hq⟩)
    ·subst h1
     obtain⟨_,hr⟩:=(Zec hM).1 ht
     rcases hr with ⟨z,hz,hzs,hzq⟩ | ⟨hz,hzl⟩
     ·exact no (.inl ⟨z,hz,Zby hzs hs,by omega⟩)
     ·refine no (.inr ⟨fun z hz2=>?_,hzl⟩)
      cases e2:Zak z x with
      | false=>rfl
      | true=>have:=hz z hz2;rw [Zby e2 (Zb8 hs)] at this;cases this
    ·exact no (.inl ⟨y,h1.1,hs,hq⟩)
   ·refine no (.inr ⟨fun y hy=>?_,by have:=Zkn hM r;omega⟩)
    cases e2:Zak y x with
    | false=>rfl
    | true=>
     obtain⟨z,hz,hzs,_⟩:=ZhE hM ht hy;have:=hn z hz;rw [Zby hzs e2] at this;cases this
theorem Zgi:∀ {B M:List RecD}{x:RecD},Asc M->ZaE M x=false->ZaE (B.foldl Za7 M) x=false
 | [],_,_,_,h=>h
 | _::B,_,_,hM,h=>Zgi (B:=B) (ZeW hM _) (Ziq hM h)
theorem Zis {M:List RecD}(hM:Asc M)(b:RecD):ZaE (Za7 M b) b=false:=by
 cases ht:ZaE M b with
 | false=>
  have e:Za7 M b=M:=by unfold Za7;rw [ht];rfl
  rw [e];exact ht
 | true=>
  have e:Za7 M b=putD M b:=by unfold Za7;rw [ht];rfl
  rw [e];cases h:ZaE (putD M b) b with
  | false=>rfl
  | true=>have:=ZcQ (ZcW hM b) h (ZbR.2 (.inr (.inl rfl))) (Zcp b);omega
theorem ZfW:∀ {B A:List RecD},Asc A->∀ x∈B,ZaE (B.foldl Za7 A) x=false
 | [],_,_,x,hx=>by cases hx
 | b::B,A,hA,x,hx=>by
  rcases List.mem_cons.1 hx with h | h
  ·subst h
   exact Zgi (B:=B) (ZeW hA x) (Zis hA x)
  ·exact ZfW (B:=B) (ZeW hA b) x h
theorem Zhx:∀ {B M:List RecD},(∀ x∈B,ZaE M x=false)->Zbu M B=[]
 | [],_,_=>rfl
 | b::B,M,h=>by
  unfold Zbu;rw [h b (by simp)]
  exact Zhx (B:=B) (fun x hx=>h x (List.mem_cons_of_mem _ hx))
theorem Zjo {A:List RecD}(hA:Asc A)(B:List RecD):Zbu (B.foldl Za7 A) B=[]:=Zhx (ZfW hA)
theorem Zeo:∀ {B A:List RecD},Asc A->∀ x∈Zbu A B,Zas x=true/\∀ y∈A,Zak y x=true->y.seq<x.seq
 | [],_,_,x,hx=>by cases hx
 | b::B,A,hA,x,hx=>by
  unfold Zbu at hx;cases ht:ZaE A b with
  | false=>rw [ht] at hx;exact Zeo (B:=B) hA x hx
  | true=>
   rw [ht] at hx
   rcases List.mem_cons.1 hx with h | h
   ·subst h
    exact⟨ZgZ ht,fun y hy hs=>ZcQ hA ht hy hs⟩
   ·obtain ⟨h1,h2⟩:=Zeo (B:=B) (ZcW hA b) x h
    refine⟨h1,fun y hy hs=>?_⟩
    obtain⟨z,hz,hzs,hzq⟩:=ZhE hA ht hy;have:=h2 z hz (Zby hzs hs);omega
theorem Zic {A B:List RecD}(hA:Asc A){x:RecD}(hx:x∈Zbu A B):Za8 A x<x.seq:=by
 obtain⟨h1,h2⟩:=Zeo hA x hx;have h3:=Zl1 h1;obtain⟨_,_,h4⟩:=Zen x A 0
 rcases h4 with h4 | ⟨y,hy,hs,e⟩
 ·unfold Za8;omega
 ·have:=h2 y hy hs
  unfold Za8;omega
theorem ZeE {M:List RecD}(h:Zaw M=true)(r:RecD):Zaw (Za7 M r)=true:=by
 have h3:=Zdp h;cases ht:ZaE M r with
 | false=>
  have e:Za7 M r=M:=by unfold Za7;rw [ht];rfl
  rw [e];exact h
 | true=>
  have e:Za7 M r=putD M r:=by unfold Za7;rw [ht];rfl
  rw [e];obtain⟨hr,hc⟩:=(Zec h3.2.2).1 ht;have hlen:(putD M r).length<=150:=by
   rcases hc with ⟨y,hy,hs,_⟩ | ⟨_,hl⟩
   ·have:=Zko hy hs
    have:=h3.1;omega
   ·have:=Zfc M r
    rw [e] at this;omega
  unfold Zaw;rw [decide_eq_true hlen,Zgv (ZcW h3.2.2 r)];have e:Zbl Zas (putD M r)=true:=ZaG fun j hj=>by
   unfold okAt;rw [List.getElem?_eq_getElem hj];have hm:=List.getElem_mem hj
   rcases ZbR.1 hm with h1 | h1 | h1
   ·exact h3.2.1 _ h1.1
   ·rw [h1];exact hr
   ·exact h3.2.1 _ h1.1
  rw [e]
  rfl
theorem ZfA:∀ {B M:List RecD},Zaw M=true->Zaw (B.foldl Za7 M)=true
 | [],_,h=>h
 | b::B,_,h=>ZfA (B:=B) (ZeE h b)
end Go.Proofs.YtcimbiinljcifaaGreat
