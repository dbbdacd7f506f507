/- Texts of ours, joined. -/
import Derived.Test.YtpckmjfabiallaaGreatDoorI07
set_option linter.unusedVariables false
set_option linter.unusedSimpArgs false
set_option maxRecDepth 100000
set_option maxHeartbeats 16000000
namespace Go.Proofs.YtpckmjfabiallaaGreatDoor
variable{b m:Nat}{cs:List Value}{v:Value}{w w' w1 w2:World}
open List
open Tryz
section
open Go.RowKit
theorem X3{base:Nat}  {n:AQ} {a:GE} {bo el:List GS} {l:AQ} {tabs:Nat}   (hW:Wr base b l tabs w) (hx:IsGS (λ k=>k<base) w (.mk 2 n [a] bo el) cs) (aj:n.length<=maxLen) (aq:De base b a) :
  AA 128 #[Bg b,.agg cs.toArray] w λ r w'=>WPost base b l tabs w (if gName n then (gE a).map λ x=>[115,101,116,32] ++ (n ++ ([32,61,32] ++ (x ++ [59]))) else none) r w':=by
 obtain⟨res,a0⟩:∃res:Option (List UInt8),Aside (res=if gName n then (gE a).map λ x=>[115,101,116,32] ++ (n ++ ([32,61,32] ++ (x ++ [59]))) else none):=⟨_,show _=_ from rfl⟩;rw[<-a0.out];rw[IsGS] at hx;obtain⟨x,y,p,f,s1,s2,s3,r1,r2,r3,rfl,aa,af,a8,ak,ab,ag⟩:=hx;obtain⟨a1,q1,rfl,av⟩:=aa.slice;obtain⟨a2,q2,rfl,am⟩:=a8.slice;obtain⟨a3,q3,rfl,au⟩:=ab.slice;have ax:∀w',FW base b w w'->Bz (λ k=>k<base) w' bo (.slice a2 bo.length q2):=λ w' hF=>⟨r2,a8.since hF.since,ak.since hF.since⟩
 have az:∀w',FW base b w w'->Bz (λ k=>k<base) w' el (.slice a3 el.length q3):=λ w' hF=>⟨r3,ab.since hF.since,ag.since hF.since⟩
 have ae:=λ (q:Nat) (e:GE) (w':World) (hq:([a]:List GE)[q]?=some e) (hF:FW base b w w')=>C1 aa af hF hq
 obtain⟨g,o',u0,u1,u2,u3,u4,u5,u6,u7,rfl,hg,⟨e0,e1,e2,e3,e4,e5,e6,e7⟩,ad⟩:=ae 0 a w rfl (AW _ _ _);obtain⟨k1,o1,n1,t1,a7,a6,b1,m1,c1,p1,ai⟩:=ad.shows;simp only[List.cons.injEq,and_true] at ai;obtain⟨rfl,rfl,rfl,rfl,rfl,rfl,rfl,rfl⟩:=ai;simp only[Nat.zero_mul,Nat.add_zero] at e0 e1 e2 e3 e4 e5 e6 e7;have hE:=In.sboxes hW (gsBox 2 n x f y (sL g o' 1 q1) (.slice a2 bo.length q2) (.slice a3 el.length q3) p) #[iv k1,iv o1,iv n1,.string t1,iv a7,.string a6,.slice b1 m1 c1,iv p1];have aw:∀w',FW base b w w'->IsGE (λ k=>k<base) w' a [iv k1,iv o1,iv n1,.string t1,iv a7,.string a6,.slice b1 m1 c1,iv p1]:=λ w' hF=>ad.since hF.since
 clear aa af a8 ak ab ag av am hW ad;unfold maxLen at au;go_enter func128,ntmps128;go_wp2_with fail;refine (need_ok _).mono ?_;rintro e w1 ⟨rfl,rfl⟩;have hN:=Dc n;rcases hgn:gName n with _ | _
 .rw[hgn] at hN;go_wp2_with fail;generalize ((w.alloc (sBox (gsBox 2 n x f y (sL g o' 1 q1) (.slice a2 bo.length q2) (.slice a3 el.length q3) p))).alloc (xBox #[iv k1,iv o1,iv n1,.string t1,iv a7,.string a6,.slice b1 m1 c1,iv p1]))=w2 at *;generalize w.heap.size=g0 at *;have l0:g0<w2:=hE.lt (AH _ (AC));have l1:g0+1<w2:=hE.lt (AC);obtain⟨x0,x1,x2,x3,x4,x5,x6,x7,_⟩:=Ab (hE.kept _ (AC));obtain⟨z0,z1,z2,z3,z4,z5,z6,z7,z8,_⟩:=Ae (hE.kept _ (AH _ (AC)));refine (hN _ aj).mono ?_;rintro e w3 ⟨rfl,rfl⟩;refine⟨rfl,?_⟩;rw[a0.out,hgn];exact⟨rfl,l,tabs,hE.wr,hE.fw⟩
 have ay:=Co hgn;rw[hgn] at hN;go_wp2_with fail;generalize ((w.alloc (sBox (gsBox 2 n x f y (sL g o' 1 q1) (.slice a2 bo.length q2) (.slice a3 el.length q3) p))).alloc (xBox #[iv k1,iv o1,iv n1,.string t1,iv a7,.string a6,.slice b1 m1 c1,iv p1]))=w2 at *;generalize w.heap.size=g0 at *;have l0:g0<w2:=hE.lt (AH _ (AC));have l1:g0+1<w2:=hE.lt (AC);obtain⟨x0,x1,x2,x3,x4,x5,x6,x7,_⟩:=Ab (hE.kept _ (AC));obtain⟨z0,z1,z2,z3,z4,z5,z6,z7,z8,_⟩:=Ae (hE.kept _ (AH _ (AC)));refine (hN _ aj).mono ?_;rintro e w2' ⟨rfl,rfl⟩;go_wp2_with fail;rw[Rt];refine (put_l hE.wr ([115,101,116,32] ++ n) (by simp;omega)).mono ?_;rintro e w3 ⟨rfl,l3,ar,h3,ah⟩;have a4:=hE.step h3 ah;clear l0 l1 x0 x1 x2 x3 x4 x5 x6 x7 z0 z1 z2 z3 z4 z5 z6 z7 z8 hN ah;have l0:g0<w3:=a4.lt (AH _ (AC));have l1:g0+1<w3:=a4.lt (AC);obtain⟨x0,x1,x2,x3,x4,x5,x6,x7,_⟩:=Ab (a4.kept _ (AC));obtain⟨z0,z1,z2,z3,z4,z5,z6,z7,z8,_⟩:=Ae (a4.kept _ (AH _ (AC)));have hC:=Ja aq a4.wr (aw w3 a4.fw);go_wp2_with fail;refine hC.mono ?_;rcases hq:gE a with _ | x
 .rintro e w9 ⟨rfl,l9,a5,h9,a9⟩;refine⟨rfl,?_⟩;rw[a0.out,hgn,if_pos rfl,hq];exact⟨rfl,l9,a5,h9,a4.fw.trans a9⟩
 .rintro e w9 ⟨rfl,l9,al,h9,a9⟩;go_wp2
  go_end0
  rw[a0.out,hgn,if_pos rfl,hq];exact⟨rfl,l9,by simpa using ar.trans al,h9,a4.fw.trans a9⟩
theorem Ac4{base:Nat}  {n:AQ} {a:GE} {bo el:List GS} {l:AQ} {tabs:Nat}   (hW:Wr base b l tabs w) (hx:IsGS (λ k=>k<base) w (.mk 6 n [a] bo el) cs) (au:De base b a) :
  AA 128 #[Bg b,.agg cs.toArray] w λ r w'=>WPost base b l tabs w ((gE a).map λ x=>[114,101,116,32] ++ (x ++ [59])) r w':=by
 obtain⟨res,a4⟩:∃res:Option (List UInt8),Aside (res=(gE a).map λ x=>[114,101,116,32] ++ (x ++ [59])):=⟨_,show _=_ from rfl⟩;rw[<-a4.out];rw[IsGS] at hx;obtain⟨x,y,p,f,s1,s2,s3,r1,r2,r3,rfl,a9,ag,a8,al,ab,ah⟩:=hx;obtain⟨a1,q1,rfl,ay⟩:=a9.slice;obtain⟨a2,q2,rfl,aq⟩:=a8.slice;obtain⟨a3,q3,rfl,ax⟩:=ab.slice;have b0:∀w',FW base b w w'->Bz (λ k=>k<base) w' bo (.slice a2 bo.length q2):=λ w' hF=>⟨r2,a8.since hF.since,al.since hF.since⟩
 have b3:∀w',FW base b w w'->Bz (λ k=>k<base) w' el (.slice a3 el.length q3):=λ w' hF=>⟨r3,ab.since hF.since,ah.since hF.since⟩
 have af:=λ (q:Nat) (e:GE) (w':World) (hq:([a]:List GE)[q]?=some e) (hF:FW base b w w')=>C1 a9 ag hF hq
 obtain⟨g,o',u0,u1,u2,u3,u4,u5,u6,u7,rfl,hg,⟨e0,e1,e2,e3,e4,e5,e6,e7⟩,ad⟩:=af 0 a w rfl (AW _ _ _);obtain⟨k1,o1,n1,t1,ae,aa,b1,m1,c1,p1,ak⟩:=ad.shows;simp only[List.cons.injEq,and_true] at ak;obtain⟨rfl,rfl,rfl,rfl,rfl,rfl,rfl,rfl⟩:=ak;simp only[Nat.zero_mul,Nat.add_zero] at e0 e1 e2 e3 e4 e5 e6 e7;have hE:=In.sboxes hW (gsBox 6 n x f y (sL g o' 1 q1) (.slice a2 bo.length q2) (.slice a3 el.length q3) p) #[iv k1,iv o1,iv n1,.string t1,iv ae,.string aa,.slice b1 m1 c1,iv p1];have az:∀w',FW base b w w'->IsGE (λ k=>k<base) w' a [iv k1,iv o1,iv n1,.string t1,iv ae,.string aa,.slice b1 m1 c1,iv p1]:=λ w' hF=>ad.since hF.since
 clear a9 ag a8 al ab ah ay aq hW ad;unfold maxLen at ax;go_enter func128,ntmps128;go_wp2_with fail;refine (need_ok _).mono ?_;rintro e w1 ⟨rfl,rfl⟩;go_wp2_with fail;generalize ((w.alloc (sBox (gsBox 6 n x f y (sL g o' 1 q1) (.slice a2 bo.length q2) (.slice a3 el.length q3) p))).alloc (xBox #[iv k1,iv o1,iv n1,.string t1,iv ae,.string aa,.slice b1 m1 c1,iv p1]))=w2 at *;generalize w.heap.size=g0 at *;have l0:g0<w2:=hE.lt (AH _ (AC));have l1:g0+1<w2:=hE.lt (AC);obtain⟨x0,x1,x2,x3,x4,x5,x6,x7,_⟩:=Ab (hE.kept _ (AC));obtain⟨z0,z1,z2,z3,z4,z5,z6,z7,z8,_⟩:=Ae (hE.kept _ (AH _ (AC)));refine (put_l hE.wr [114,101,116,32] (by simp)).mono ?_;rintro e w3 ⟨rfl,l3,aw,h3,ai⟩;have a0:=hE.step h3 ai;clear l0 l1 x0 x1 x2 x3 x4 x5 x6 x7 z0 z1 z2 z3 z4 z5 z6 z7 z8 ai;have l0:g0<w3:=a0.lt (AH _ (AC));have l1:g0+1<w3:=a0.lt (AC);obtain⟨x0,x1,x2,x3,x4,x5,x6,x7,_⟩:=Ab (a0.kept _ (AC));obtain⟨z0,z1,z2,z3,z4,z5,z6,z7,z8,_⟩:=Ae (a0.kept _ (AH _ (AC)));have aj:=au.top a0.wr (az w3 a0.fw);go_wp2_with fail;refine aj.mono ?_;rcases hq0:gE a with _ | x'
 .rintro e w4 ⟨rfl,l4,a6,h4,a7⟩;refine⟨rfl,?_⟩;rw[a4.out,hq0];exact⟨rfl,l4,a6,h4,a0.fw.trans a7⟩
 rintro e w4 ⟨rfl,l4,am,h4,a7⟩;have a5:=a0.step h4 a7;clear l0 l1 x0 x1 x2 x3 x4 x5 x6 x7 z0 z1 z2 z3 z4 z5 z6 z7 z8 aj a7;have l0:g0<w4:=a5.lt (AH _ (AC));have l1:g0+1<w4:=a5.lt (AC);obtain⟨x0,x1,x2,x3,x4,x5,x6,x7,_⟩:=Ab (a5.kept _ (AC));obtain⟨z0,z1,z2,z3,z4,z5,z6,z7,z8,_⟩:=Ae (a5.kept _ (AH _ (AC)));go_wp2_with fail;refine (put_l a5.wr [59] (by simp)).mono ?_;rintro e w5 ⟨rfl,l5,av,h5,ar⟩;go_wp2
 go_end0
 rw[a4.out,hq0];exact⟨rfl,l5,by simpa using (aw.trans am).trans av,h5,a5.fw.trans ar⟩
theorem X5{base:Nat}{k:Int}{n:AQ}{a:GE}{bo el:List GS}{l:AQ}{tabs:Nat}(hW:Wr base b l tabs w)(hx:IsGS (λ k=>k<base) w (.mk k n [a] bo el) cs)(hk:k≠1/\k≠2/\k≠3/\k≠4/\k≠5/\k≠6) :
  AA 128 #[Bg b,.agg cs.toArray] w λ r w'=>WPost base b l tabs w (none) r w':=by
 obtain⟨res,a0⟩:∃res:Option (List UInt8),Aside (res=none):=⟨_,show _=_ from rfl⟩;rw[<-a0.out];rw[IsGS] at hx;obtain⟨x,y,p,f,s1,s2,s3,r1,r2,r3,rfl,a5,ab,a4,af,a7,ad⟩:=hx;obtain⟨a1,q1,rfl,ai⟩:=a5.slice;obtain⟨a2,q2,rfl,ag⟩:=a4.slice;obtain⟨a3,q3,rfl,ah⟩:=a7.slice;have aq:∀w',FW base b w w'->Bz (λ k=>k<base) w' bo (.slice a2 bo.length q2):=λ w' hF=>⟨r2,a4.since hF.since,af.since hF.since⟩
 have ar:∀w',FW base b w w'->Bz (λ k=>k<base) w' el (.slice a3 el.length q3):=λ w' hF=>⟨r3,a7.since hF.since,ad.since hF.since⟩
 have aa:=λ (q:Nat) (e:GE) (w':World) (hq:([a]:List GE)[q]?=some e) (hF:FW base b w w')=>C1 a5 ab hF hq
 obtain⟨g,o',u0,u1,u2,u3,u4,u5,u6,u7,rfl,hg,⟨e0,e1,e2,e3,e4,e5,e6,e7⟩,a8⟩:=aa 0 a w rfl (AW _ _ _);obtain⟨k1,o1,n1,t1,a9,a6,b1,m1,c1,p1,ae⟩:=a8.shows;simp only[List.cons.injEq,and_true] at ae;obtain⟨rfl,rfl,rfl,rfl,rfl,rfl,rfl,rfl⟩:=ae;simp only[Nat.zero_mul,Nat.add_zero] at e0 e1 e2 e3 e4 e5 e6 e7;have hE:=In.sboxes hW (gsBox k n x f y (sL g o' 1 q1) (.slice a2 bo.length q2) (.slice a3 el.length q3) p) #[iv k1,iv o1,iv n1,.string t1,iv a9,.string a6,.slice b1 m1 c1,iv p1];have av:∀w',FW base b w w'->IsGE (λ k=>k<base) w' a [iv k1,iv o1,iv n1,.string t1,iv a9,.string a6,.slice b1 m1 c1,iv p1]:=λ w' hF=>a8.since hF.since
 clear a5 ab a4 af a7 ad ai ag hW a8;unfold maxLen at ah;have aj:(k == 1)=false:=by simpa using hk.1
 have am:(k == 2)=false:=by simpa using hk.2.1
 have al:(k == 3)=false:=by simpa using hk.2.2.1
 have aw:(k == 4)=false:=by simpa using hk.2.2.2.1
 have ak:(k == 5)=false:=by simpa using hk.2.2.2.2.1
 have au:(k == 6)=false:=by simpa using hk.2.2.2.2.2
 clear hk;go_enter func128,ntmps128;go_wp2_with fail;refine (need_ok _).mono ?_;rintro e w1 ⟨rfl,rfl⟩;go_wp2_with fail;generalize ((w.alloc (sBox (gsBox k n x f y (sL g o' 1 q1) (.slice a2 bo.length q2) (.slice a3 el.length q3) p))).alloc (xBox #[iv k1,iv o1,iv n1,.string t1,iv a9,.string a6,.slice b1 m1 c1,iv p1]))=w2 at *;generalize w.heap.size=g0 at *;have l0:g0<w2:=hE.lt (AH _ (AC));have l1:g0+1<w2:=hE.lt (AC);obtain⟨x0,x1,x2,x3,x4,x5,x6,x7,_⟩:=Ab (hE.kept _ (AC));obtain⟨z0,z1,z2,z3,z4,z5,z6,z7,z8,_⟩:=Ae (hE.kept _ (AH _ (AC)));refine (need_no _).mono ?_;rintro e w3 ⟨rfl,rfl⟩;refine⟨rfl,?_⟩;rw[a0.out];exact⟨rfl,l,tabs,hE.wr,hE.fw⟩
mutual
def OkS:GS->Prop
 | .mk k n es b c=>n.length<=maxLen/\OkEs es/\OkSs b/\OkSs c
def OkSs:List GS->Prop
 | []=>True
 | s :: r=>OkS s/\OkSs r
end
theorem Pm{base:Nat}{ss:List GS}(h:∀s∈ss,Ab7 base b s):Lf base b ss:=by
 cases ss with
 | nil=>exact T9
 | cons s r=>exact X1 (by simp) h
theorem Yf{k:Int}{n:AQ}{es:List GE}{x y:Option (List UInt8)}{z:Bool}(h1:es.length≠1)(h2:es.length≠2\/k≠2):gSK k n es x y z=none:=by
 unfold gSK;rw[if_pos (by omega)]
theorem Ue{base:Nat}{k:Int}{n:AQ}{es:List GE}{bo el:List GS}(hn:n.length<=maxLen)(he:∀e∈es,De base b e)(hb:Lf base b bo)(hc:Lf base b el):Ab7 base b (.mk k n es bo el):=by
 intro l tabs cs w hd hW hx;rw[gsD] at hd;rw[gSt];by_cases h1:es.length=1
 .match es,h1,he,hx with
  | [a],_,he,hx=>
   have a3:=he a (by simp);by_cases k1:k=1
   .subst k1;have:=Ab9 hW hx hn a3;rw[show gSK 1 n [a] (gBlk (gSts bo (indT tabs)) (indT tabs) bo.isEmpty) (gBlk (gSts el (indT tabs)) (indT tabs) el.isEmpty) el.isEmpty=if gName n then (gE a).map λ x=>[108,101,116,32] ++ (n ++ ([32,61,32] ++ (x ++ [59]))) else none by
     cases hg:gName n <;> rcases hq:gE a with _ | x <;> simp[gSK,hg,hq]]
    exact this
   by_cases k2:k=2
   .subst k2;have:=X3 hW hx hn a3;rw[show gSK 2 n [a] (gBlk (gSts bo (indT tabs)) (indT tabs) bo.isEmpty) (gBlk (gSts el (indT tabs)) (indT tabs) el.isEmpty) el.isEmpty=if gName n then (gE a).map λ x=>[115,101,116,32] ++ (n ++ ([32,61,32] ++ (x ++ [59]))) else none by
     cases hg:gName n <;> rcases hq:gE a with _ | x <;> simp[gSK,hg,hq]]
    exact this
   by_cases k3:k=3
   .subst k3;have:=Ac0 hW hx hn a3;rw[show gSK 3 n [a] (gBlk (gSts bo (indT tabs)) (indT tabs) bo.isEmpty) (gBlk (gSts el (indT tabs)) (indT tabs) el.isEmpty) el.isEmpty=if gName n then (gE a).map λ x=>[100,101,108,32] ++ (n ++ ([91] ++ (x ++ [93,59]))) else none by
     cases hg:gName n <;> rcases hq:gE a with _ | x <;> simp[gSK,hg,hq]]
    exact this
   by_cases k4:k=4
   .subst k4;by_cases hel:el.length=0
    .have a0:el=[]:=length_eq_zero_iff.1 hel;have:=Ac1 hW hx a3 hb (by omega) (by omega);rw[show gSK 4 n [a] (gBlk (gSts bo (indT tabs)) (indT tabs) bo.isEmpty) (gBlk (gSts el (indT tabs)) (indT tabs) el.isEmpty) el.isEmpty=((gE a).bind λ x=>(gBlk (gSts bo (indT tabs)) (indT tabs) bo.isEmpty).map λ y=>x ++ ([32] ++ y)).map λ z=>[105,102,32] ++ z by
      rcases hq:gE a with _ | x <;> rcases gBlk (gSts bo (indT tabs)) (indT tabs) bo.isEmpty with _ | y <;> simp[gSK,hq,a0]]
     exact this
    .have a0:el.isEmpty=false:=by cases el with | nil=>simp at hel | cons _ _=>rfl
     have:=Ac2 hW hx a3 hb (by omega) hc (by omega) (by omega);rw[show gSK 4 n [a] (gBlk (gSts bo (indT tabs)) (indT tabs) bo.isEmpty) (gBlk (gSts el (indT tabs)) (indT tabs) el.isEmpty) el.isEmpty=((gE a).bind λ x=>(gBlk (gSts bo (indT tabs)) (indT tabs) bo.isEmpty).map λ y=>x ++ ([32] ++ y)).bind λ z=>(gBlk (gSts el (indT tabs)) (indT tabs) el.isEmpty).map λ u=>[105,102,32] ++ (z ++ ([32,101,108,115,101,32] ++ u)) by
      rw[a0];rcases hq:gE a with _ | x <;> rcases gBlk (gSts bo (indT tabs)) (indT tabs) bo.isEmpty with _ | y <;> rcases gBlk (gSts el (indT tabs)) (indT tabs) false with _ | z <;> simp[gSK,hq]]
     exact this
   by_cases k5:k=5
   .subst k5;have:=Ac3 hW hx hn a3 hb (by omega);rw[show gSK 5 n [a] (gBlk (gSts bo (indT tabs)) (indT tabs) bo.isEmpty) (gBlk (gSts el (indT tabs)) (indT tabs) el.isEmpty) el.isEmpty=if gName n then ((gE a).bind λ x=>(gBlk (gSts bo (indT tabs)) (indT tabs) bo.isEmpty).map λ y=>x ++ ([32] ++ y)).map λ z=>[102,111,114,32] ++ (n ++ ([32,116,111,32] ++ z)) else none by
     cases hg:gName n <;> rcases hq:gE a with _ | x <;> rcases gBlk (gSts bo (indT tabs)) (indT tabs) bo.isEmpty with _ | y <;> simp[gSK,hg,hq]]
    exact this
   by_cases k6:k=6
   .subst k6;have:=Ac4 hW hx a3;rw[show gSK 6 n [a] (gBlk (gSts bo (indT tabs)) (indT tabs) bo.isEmpty) (gBlk (gSts el (indT tabs)) (indT tabs) el.isEmpty) el.isEmpty=(gE a).map λ x=>[114,101,116,32] ++ (x ++ [59]) by
     rcases hq:gE a with _ | x <;> simp[gSK,hq]]
    exact this
   have:=X5 hW hx ⟨k1,k2,k3,k4,k5,k6⟩;rw[show gSK k n [a] (gBlk (gSts bo (indT tabs)) (indT tabs) bo.isEmpty) (gBlk (gSts el (indT tabs)) (indT tabs) el.isEmpty) el.isEmpty=none by
    unfold gSK;rw[if_pos (by omega)]]
   exact this
 by_cases h2:es.length=2/\k=2
 .obtain⟨hl,rfl⟩:=h2
  match es,hl,he,hx with
  | [a,c],_,he,hx=>
   have:=X4 hW hx hn (he a (by simp)) (he c (by simp));rw[show gSK 2 n [a,c] (gBlk (gSts bo (indT tabs)) (indT tabs) bo.isEmpty) (gBlk (gSts el (indT tabs)) (indT tabs) el.isEmpty) el.isEmpty=if gName n then (gE a).bind λ x=>(gE c).map λ y=>[115,101,116,32] ++ (n ++ ([91] ++ (x ++ ([93,32,61,32] ++ (y ++ [59]))))) else none by
    cases hg:gName n <;> rcases hq:gE a with _ | x <;> rcases hq2:gE c with _ | y <;> simp[gSK,hg,hq,hq2]]
   exact this
 rw[Yf h1 (by omega)];exact Ua hW hx h1 (by omega)
mutual
theorem Bc4{base b:Nat}:∀s:GS,OkS s->Ab7 base b s
 | .mk k n es bo el,h=>by
  rw[OkS] at h;exact Ue h.1 (Ad0 es h.2.1) (Pm (Wh bo h.2.2.1)) (Pm (Wh el h.2.2.2))
theorem Wh{base b:Nat}:∀l:List GS,OkSs l->∀s∈l,Ab7 base b s
 | [],_,s,hs=>by simp at hs
 | a :: r,h,s,hs=>by
  rw[OkSs] at h;have ha:=Bc4 (base:=base) (b:=b) a h.1;have hr:=Wh (base:=base) (b:=b) r h.2;rcases mem_cons.1 hs with rfl | hs
  .exact ha
  .exact hr s hs
end
theorem Az4{base:Nat}(ss:List GS)(h:OkSs ss):Lf base b ss:=Pm (Wh ss h)
theorem E9{y:AQ}(h:gType y=true):y.length<=28:=by
 unfold gType at h;split at h
 .rename_i ht;obtain⟨c,hc⟩:=ht;have:∀{k:Nat} {y:AQ} {c:List Lx.Tok},Px.Ty k y c->y.length<=7*k:=by
   intro k y c h;induction h with
   | int=>simp;omega
   | bool=>simp;omega
   | text=>simp;omega
   | list _ ih=>simp at ih ⊢;omega
   | map ha _ ih=>rcases ha with rfl | rfl <;> (simp at ih ⊢;omega)
  have:=this hc;omega
 .cases h
theorem Ad1(n y:AQ):((⟨n.toArray⟩ ++ ⟨#[58,32]⟩ ++ ⟨y.toArray⟩:ByteArray))=⟨(n ++ ([58,32] ++ y)).toArray⟩:=by
 apply ByteArray.ext;simp[ByteArray.data_append]
abbrev An6(n y:AQ)(p:Int):Array Value:=#[.string ⟨n.toArray⟩,.string ⟨y.toArray⟩,iv p]
theorem Ny{base:Nat}{s:List UInt8 × List UInt8}{l:AQ}{tabs:Nat}(hW:Wr base b l tabs w)(hx:Rm s cs)(h1:s.1.length<=maxLen)(h2:s.2.length<=maxLen) :
  AA 62 #[Bg b,.agg cs.toArray] w λ r w'=>WPost base b l tabs w (gSl s) r w':=by
 obtain⟨n,y⟩:=s;obtain⟨p,rfl⟩:=hx;simp only at h1 h2;have hE:=(AY hW).alloc (An6 n y p) 40 (by decide);have hN:=Dc n;have hY:=I6 y;clear hW;rcases hgn:gName n with _ | _
 .rw[hgn] at hN;rw[show gSl (n,y)=none by simp[gSl,hgn]];go_enter func62,ntmps62
  go_upto_region 1 with fail
  generalize w.alloc (.cells (An6 n y p) 40)=w2 at *;generalize w.heap.size=g0 at *;have l0:g0<w2:=hE.lt (AC);obtain⟨x0,x1,x2,_⟩:=Ad (hE.kept _ (AC))
  go_region_with (go_at_call 91;refine (hN _ h1).mono ?_;rintro e w3 ⟨rfl,rfl⟩;refine skip_way w2.drew ⟨rfl,rfl,l,tabs,hE.drew.wr,hE.drew.fw⟩ ?_)
  all_goals trivial
 rw[hgn] at hN;have a5:=Co hgn;rcases hgy:gType y with _ | _
 .rw[hgy] at hY;rw[show gSl (n,y)=none by simp[gSl,hgy]];go_enter func62,ntmps62
  go_upto_region 1 with fail
  generalize w.alloc (.cells (An6 n y p) 40)=w2 at *;generalize w.heap.size=g0 at *;have l0:g0<w2:=hE.lt (AC);obtain⟨x0,x1,x2,_⟩:=Ad (hE.kept _ (AC))
  go_region_with (first
   |(go_at_call 91;refine (hN _ h1).mono ?_;rintro e w3 ⟨rfl,rfl⟩)
   |(go_at_call 92;refine (hY _ h2).mono ?_;rintro e w3 ⟨rfl,rfl⟩;refine skip_way w2.drew ⟨rfl,rfl,l,tabs,hE.drew.wr,hE.drew.fw⟩ ?_))
  all_goals trivial
 rw[hgy] at hY;have a4:=E9 hgy;rw[show gSl (n,y)=some (n ++ ([58,32] ++ y)) by simp[gSl,hgn,hgy]];go_enter func62,ntmps62
 go_upto_region 1 with fail
 generalize w.alloc (.cells (An6 n y p) 40)=w2 at *;generalize w.heap.size=g0 at *;have l0:g0<w2:=hE.lt (AC);obtain⟨x0,x1,x2,_⟩:=Ad (hE.kept _ (AC));have hP:=put_l hE.drew.wr (n ++ ([58,32] ++ y)) (by simp;omega);rw[<-Ad1] at hP
 go_region_with (first
  |(go_at_call 91;refine (hN _ h1).mono ?_;rintro e w3 ⟨rfl,rfl⟩)
  |(go_at_call 92;refine (hY _ h2).mono ?_;rintro e w3 ⟨rfl,rfl⟩)
  |(go_at_call 60;refine hP.mono ?_;rintro e w4 ⟨rfl,l4,a0,h4,a3⟩))
 all_goals
  go_wp2
  go_end0
  exact⟨rfl,l4,a0,h4,hE.fw.trans (AX 1 a3)⟩
def OkL(s:List UInt8 × List UInt8):Prop:=s.1.length<=maxLen/\s.2.length<=maxLen
structure OkF(f:GF):Prop where
 name:f.name.length<=maxLen
 result:f.result.length<=maxLen
 params:∀s∈f.params,OkL s
 body:OkSs f.body
 deep:0+1+Eg f.body<=1099511627776
noncomputable def fnT (wd:AQ) (nm:AQ) (ps:List (List UInt8 × List UInt8)) (rs:AQ) (bo:List GS):Option (List UInt8):=
 if gName nm then (allS (ps.map gSl)).bind λ xs=>if gType rs then (gBlk (gSts bo (indT 0)) (indT 0) bo.isEmpty).map λ y=>wd ++ (nm ++ ([40] ++ (commasS xs ++ ([41,58,32] ++ (rs ++ ([32] ++ y)))))) else none else none
theorem Au9(f:GF):gFn f=(fnT (if f.on then [111,110,32] else [102,110,32]) f.name f.params f.result f.body).map λ x=>x ++ [10]:=by
 unfold gFn fnT;rw[Rp];rcases hn:gName f.name with _ | _
 .simp
 rcases ht:gType f.result with _ | _
 .rcases allS (f.params.map gSl) with _ | xs <;> simp
 rcases allS (f.params.map gSl) with _ | xs
 .simp
 rcases hb:gBlk (gSts f.body []) [] f.body.isEmpty with _ | y
 .rw[show indT 0=[] from rfl,hb];simp
 .rw[show indT 0=[] from rfl,hb];simp
theorem Wi{base:Nat}{ps:List (List UInt8 × List UInt8)}{row:AR}{ao:Option Addr}{cap:Nat}(hr:SlRow (λ k=>k<base) w 3 (.slice ao ps.length cap) ps.length row)(ha:Js ps row)(hF:FW base b w w'){q:Nat}{e:List UInt8 × List UInt8}(hq:ps[q]?=some e) :
  ∃(g o:Nat) (x y:ByteArray) (p:Int),ao=some ⟨g,o,none⟩/\g<w' /\
   (w'.cell? ⟨g,o+q*3,none⟩=some (.string x)/\w'.cell? ⟨g,o+q*3+1,none⟩=some (.string y)/\w'.cell? ⟨g,o+q*3+2,none⟩=some (iv p)) /\
   Rm e [.string x,.string y,iv p]:=by
 have a4:q<ps.length:=(AK hq).1;obtain⟨cx,kx,rx⟩:=ha.get hq;obtain⟨g,o,c,e0,_,_,a3,hg,hc⟩:=hr.cells (by omega);simp only[Value.slice.injEq] at e0;obtain⟨rfl,_,rfl⟩:=e0;have a0:=kx;obtain⟨p,rfl⟩:=kx;have f0:∀(j:Nat) (u:Value),j<3->([.string ⟨e.1.toArray⟩,.string ⟨e.2.toArray⟩,iv p]:AR)[j]?=some u->w'.cell? ⟨g,o+q*3+j,none⟩=some u:=by
  intro j u hj hu;rw[Nat.add_assoc,hF.below.cell (p:=⟨g,o+(q*3+j),none⟩) a3];exact hc _ _ (by rw[rx j hj];exact hu)
 exact⟨g,o,_,_,p,rfl,by have:=hF.size;omega,⟨f0 0 _ (by omega) rfl,f0 1 _ (by omega) rfl,f0 2 _ (by omega) rfl⟩,a0⟩
abbrev Ad2(cs:Array Value):Obj:=.cells cs 36 (0,0)
structure FnIn(base b g0:Nat)(cs:Array Value)(w w1:World):Prop where
 p:w1.heap[g0]?=some (Am b)
 x:w1.heap[g0+1]?=some (Ad2 cs)
 gt:b<g0
 fw:FW base b w w1
theorem FnIn.step{base g0:Nat}{cs:Array Value}(h:FnIn base b g0 cs w w1)(hf:FW base b w1 w2):FnIn base b g0 cs w w2:=by
 have hg:=h.gt;exact⟨hf.block h.p (by omega) (by decide),hf.block h.x (by omega) (by decide),hg,h.fw.trans hf⟩
abbrev F9(nm:AQ)(on:Bool)(ps:Value)(rs:AQ)(bs:Value)(p:Int):Array Value:=#[.string ⟨nm.toArray⟩,.bool on,ps,.string ⟨rs.toArray⟩,sZ,bs,iv p]
theorem Jv{base g0:Nat}{nm:AQ}{on:Bool}{rs:AQ}{bs:Value}{p:Int}{ao:Option Addr}{cap:Nat}{ps:List (List UInt8 × List UInt8)}{row:AR}{tabs:Nat}(hr:SlRow (λ k=>k<base) w 3 (.slice ao ps.length cap) ps.length row)(ha:Js ps row)(hO:∀s∈ps,OkL s)
  (i:Nat) (r:Option (List UInt8)) (l:AQ) (w1:World) (hi:(ps.map gSl)[i]?=some r) (hW:Wr base b l tabs w1) (hI:FnIn base b g0 (F9 nm on (.slice ao ps.length cap) rs bs p) w w1) :
  AA 94 (#[iv i] ++ #[pt g0 0,pt (g0+1) 0]) w1 λ e w2=>WPost base b l tabs w1 r e w2:=by
 rw[List.getElem?_map] at hi;rcases he:ps[i]? with _ | e
 .rw[he] at hi;cases hi
 rw[he,Option.map_some,Option.some.injEq] at hi;have a0:e∈ps:=mem_of_getElem? he;have a8:i<ps.length:=(AK he).1;obtain⟨_,_,-,hm⟩:=hr.slice;unfold maxLen at hm;obtain⟨g,o',x,y,pp,rfl,hg,⟨e0,e1,e2⟩,a5⟩:=Wi hr ha hI.fw he;have hC:=Ny hW.drew a5 (hO e a0).1 (hO e a0).2;rw[hi] at hC;have l0:g0<w1:=(AB hI.p).1;have l1:g0+1<w1:=(AB hI.x).1;have c0:=cell_of_one hI.p;obtain⟨x0,x1,x2,x3,x4,x5,x6,_⟩:=Ba hI.x;have a7:(i:Int)<(ps.length:Int):=by omega
 clear hr ha a5 hI he hi hO;show AA 94 #[iv i,pt g0 0,pt (g0+1) 0] w1 _;go_enter func94,ntmps94
 go_upto_region 0 with fail
 rcases r with _ | z
 .go_region_with (go_at_call 62;refine hC.mono ?_;rintro e w5 ⟨rfl,l5,a3,h5,a4⟩;refine skip_way w5 ⟨rfl,rfl,l5,a3,h5,AX 1 a4⟩ ?_)
  all_goals trivial
 .go_region_with (go_at_call 62;refine hC.mono ?_;rintro e w5 ⟨rfl,l5,a6,h5,a4⟩)
  all_goals
   go_wp2
   go_end0
   exact⟨rfl,l5,a6,h5,AX 1 a4⟩
theorem Ar6(args:Array Value)(w:World):(callFunc 94 args).run prog w=.ok (.enter 94 args) w:=enters_of func94 (by kernel_rfl) rfl args w
abbrev fks(b g0:Nat)(cs:Array Value):List (Nat × Obj):=[(g0+1,Ad2 cs),(g0,Am b)]
theorem In.fboxes{base:Nat}{l:AQ}{tabs:Nat}(h:Wr base b l tabs w)(cs:Array Value):In base b (fks b w cs) l tabs w ((w.alloc (Am b)).alloc (Ad2 cs)):=by
 have:=((AY h).alloc #[Bg b] 108 (by decide)).alloc cs 36 (by decide);simpa [fks] using this
theorem Wj(y:AQ):((⟨#[58,32]⟩ ++ ⟨y.toArray⟩ ++ ⟨#[32]⟩:ByteArray))=⟨([58,32] ++ (y ++ [32])).toArray⟩:=by
 apply ByteArray.ext;simp[ByteArray.data_append]
theorem Av0{base:Nat}{nm rs:AQ}{ps:List (List UInt8 × List UInt8)}{bo:List GS}{l:AQ}(hW:Wr base b l 0 w)(hx:G5 (λ k=>k<base) w ⟨nm,false,ps,rs,bo⟩ cs)(hO:OkF ⟨nm,false,ps,rs,bo⟩) :
  AA 63 #[Bg b,.agg cs.toArray] w λ r w'=>WPost base b l 0 w (fnT [102,110,32] nm ps rs bo) r w':=by
 obtain⟨res,a0⟩:∃res:Option (List UInt8),Aside (res=fnT [102,110,32] nm ps rs bo):=⟨_,show _=_ from rfl⟩;rw[<-a0.out];unfold fnT at a0;obtain⟨pv,bv,p,rfl,⟨ax,ab,ad⟩,⟨row2,aa,ai⟩⟩:=hx;simp only at ab ad aa ai;obtain⟨a1,q1,rfl,au⟩:=ab.slice;obtain⟨a2,q2,rfl,av⟩:=aa.slice;obtain⟨ah,aj,ag,al,ak⟩:=hO;simp only at ah aj ag al ak;have ar:=hW.lt;have aq:∀w',FW base b w w'->Bz (λ k=>k<base) w' bo (.slice a2 bo.length q2):=λ w' hF=>⟨row2,aa.since hF.since,ai.since hF.since⟩
 have hB:=Az4 (base:=base) (b:=b) bo al;have hE:=In.fboxes hW (F9 nm false (.slice a1 ps.length q1) rs (.slice a2 bo.length q2) p);have hN:=Dc nm;have hY:=I6 rs;have ay:∀(fn:Fn) (first cap:Array Value) (w:World),(Instr.makeFunc fn first cap).run prog w=.ok (.func fn first cap) w:=λ _ _ _ _=>rfl
 clear aa ai av hW;unfold maxLen at au;go_enter func63,ntmps63
 go_upto_region 4 with fail
 generalize ((w.alloc (Am b)).alloc (Ad2 (F9 nm false (.slice a1 ps.length q1) rs (.slice a2 bo.length q2) p)))=w2 at *;generalize w.heap.size=g0 at *;have l0:g0<w2:=hE.lt (q:=(g0,Am b)) (by simp);have l1:g0+1<w2:=hE.lt (AC);have c0:=cell_of_one (hE.kept (g0,Am b) (by simp));obtain⟨x0,x1,x2,x3,x4,x5,x6,_⟩:=Ba (hE.kept _ (AC));rcases hgn:gName nm with _ | _
 .rw[hgn] at hN
  go_region_with (go_at_call 91;refine (hN _ ah).mono ?_;rintro e w3 ⟨rfl,rfl⟩;refine skip_way w2.drew ⟨rfl,(show WPost base b l 0 w res _ _ by rw[a0.out,hgn];exact⟨rfl,l,0,hE.drew.wr,hE.drew.fw⟩)⟩ ?_)
  all_goals trivial
 rw[hgn] at hN;have b0:=Co hgn;have hP:=put_l hE.drew.wr ([102,110,32] ++ nm) (by simp;omega);rw[<-Rt] at hP
 go_cut [] from 7 to 13 (λ wc=>∃l3,Bk l ([102,110,32] ++ nm) l3/\In base b (fks b g0 (F9 nm false (.slice a1 ps.length q1) rs (.slice a2 bo.length q2) p)) l3 0 w wc)
 case first=>
  go_region_with (first
   |(go_at_call 91;refine (hN _ ah).mono ?_;rintro e w3 ⟨rfl,rfl⟩)
   |(go_at_call 60;refine hP.mono ?_;rintro e w4 ⟨rfl,l4,af,h4,a8⟩))
  all_goals (go_wp2_with fail;go_meet;exact⟨l4,af,hE.step h4 (AX 1 a8)⟩)
 case rest=>
  clear l0 l1 c0 x0 x1 x2 x3 x4 x5 x6 hN hP hE;obtain⟨l3,am,a3⟩:=hcut;have l0:g0<wc:=a3.lt (q:=(g0,Am b)) (by simp);have l1:g0+1<wc:=a3.lt (AC);have c0:=cell_of_one (a3.kept (g0,Am b) (by simp));obtain⟨x0,x1,x2,x3,x4,x5,x6,_⟩:=Ba (a3.kept _ (AC));have hC:=F8 (K:=94) (caps:=#[pt g0 0,pt (g0+1) 0]) (xs:=ps.map gSl) (Inv:=FnIn base b g0 (F9 nm false (.slice a1 ps.length q1) rs (.slice a2 bo.length q2) p) w) a3.wr (by simp;omega) Ar6 (Jv ab ad ag) (λ _ _ h hf=>h.step hf) ⟨a3.kept (g0,Am b) (by simp),a3.kept _ (AC),ar,a3.fw⟩;rw[length_map] at hC;clear ab ad ag;go_wp2_with fail;refine hC.mono ?_;rcases hqa:allS (ps.map gSl) with _ | zs
  .rintro e w4 ⟨rfl,l4,a9,h4,a8⟩;refine⟨rfl,?_⟩;rw[a0.out,hgn,if_pos rfl,hqa];exact⟨rfl,l4,a9,h4,a3.fw.trans a8⟩
  rintro e w4 ⟨rfl,l4,af,h4,a8⟩;have a5:=a3.step h4 a8;clear l0 l1 c0 x0 x1 x2 x3 x4 x5 x6 hC;have l0:g0<w4:=a5.lt (q:=(g0,Am b)) (by simp);have l1:g0+1<w4:=a5.lt (AC);have c0:=cell_of_one (a5.kept (g0,Am b) (by simp));obtain⟨x0,x1,x2,x3,x4,x5,x6,_⟩:=Ba (a5.kept _ (AC))
  go_upto_region 6 with fail
  rcases hgy:gType rs with _ | _
  .rw[hgy] at hY
   go_region_with (go_at_call 92;refine (hY _ aj).mono ?_;rintro e w5 ⟨rfl,rfl⟩;refine skip_way w4.drew ⟨rfl,(show WPost base b l 0 w res _ _ by rw[a0.out,hgn,if_pos rfl,hqa,hgy];exact⟨rfl,l4,0,a5.drew.wr,a5.drew.fw⟩)⟩ ?_)
   all_goals trivial
  rw[hgy] at hY;have az:=E9 hgy;have hP:=put_l a5.drew.wr ([58,32] ++ (rs ++ [32])) (by simp;omega);rw[<-Wj] at hP
  go_cut [] from 20 to 26 (λ wc=>∃l5,Bk l4 ([58,32] ++ (rs ++ [32])) l5/\In base b (fks b g0 (F9 nm false (.slice a1 ps.length q1) rs (.slice a2 bo.length q2) p)) l5 0 w wc)
  case first=>
   go_region_with (first
    |(go_at_call 92;refine (hY _ aj).mono ?_;rintro e w5 ⟨rfl,rfl⟩)
    |(go_at_call 60;refine hP.mono ?_;rintro e w6 ⟨rfl,l6,ae,h6,a6⟩))
   all_goals (go_wp2_with fail;go_meet;exact⟨l6,ae,a5.step h6 (AX 1 a6)⟩)
  case rest=>
   clear l0 l1 c0 x0 x1 x2 x3 x4 x5 x6 hY hP;obtain⟨l5,aw,a4⟩:=hcut;have l0:g0<wc:=a4.lt (q:=(g0,Am b)) (by simp);have l1:g0+1<wc:=a4.lt (AC);have c0:=cell_of_one (a4.kept (g0,Am b) (by simp));obtain⟨x0,x1,x2,x3,x4,x5,x6,_⟩:=Ba (a4.kept _ (AC));have hC:=hB l5 0 _ wc ak a4.wr (aq wc a4.fw);go_wp2_with fail;refine hC.mono ?_;rcases hqb:gBlk (gSts bo (indT 0)) (indT 0) bo.isEmpty with _ | y
   .rintro e w6 ⟨rfl,l6,a7,h6,a6⟩;refine⟨rfl,?_⟩;rw[a0.out,hgn,if_pos rfl,hqa,Option.bind_some,hgy,if_pos rfl,hqb];exact⟨rfl,l6,a7,h6,a4.fw.trans a6⟩
   .rintro e w6 ⟨rfl,l6,ae,h6,a6⟩;go_wp2
    go_end0
    rw[a0.out,hgn,if_pos rfl,hqa,Option.bind_some,hgy,if_pos rfl,hqb];exact⟨rfl,l6,by simpa using ((am.trans af).trans aw).trans ae,h6,a4.fw.trans a6⟩
theorem Az5{base:Nat}{nm rs:AQ}{ps:List (List UInt8 × List UInt8)}{bo:List GS}{l:AQ}(hW:Wr base b l 0 w)(hx:G5 (λ k=>k<base) w ⟨nm,true,ps,rs,bo⟩ cs)(hO:OkF ⟨nm,true,ps,rs,bo⟩) :
  AA 63 #[Bg b,.agg cs.toArray] w λ r w'=>WPost base b l 0 w (fnT [111,110,32] nm ps rs bo) r w':=by
 obtain⟨res,a0⟩:∃res:Option (List UInt8),Aside (res=fnT [111,110,32] nm ps rs bo):=⟨_,show _=_ from rfl⟩;rw[<-a0.out];unfold fnT at a0;obtain⟨pv,bv,p,rfl,⟨ax,ab,ad⟩,⟨row2,aa,ai⟩⟩:=hx;simp only at ab ad aa ai;obtain⟨a1,q1,rfl,au⟩:=ab.slice;obtain⟨a2,q2,rfl,av⟩:=aa.slice;obtain⟨ah,aj,ag,al,ak⟩:=hO;simp only at ah aj ag al ak;have ar:=hW.lt;have aq:∀w',FW base b w w'->Bz (λ k=>k<base) w' bo (.slice a2 bo.length q2):=λ w' hF=>⟨row2,aa.since hF.since,ai.since hF.since⟩
 have hB:=Az4 (base:=base) (b:=b) bo al;have hE:=In.fboxes hW (F9 nm true (.slice a1 ps.length q1) rs (.slice a2 bo.length q2) p);have hN:=Dc nm;have hY:=I6 rs;have ay:∀(fn:Fn) (first cap:Array Value) (w:World),(Instr.makeFunc fn first cap).run prog w=.ok (.func fn first cap) w:=λ _ _ _ _=>rfl
 clear aa ai av hW;unfold maxLen at au;go_enter func63,ntmps63
 go_upto_region 4 with fail
 generalize ((w.alloc (Am b)).alloc (Ad2 (F9 nm true (.slice a1 ps.length q1) rs (.slice a2 bo.length q2) p)))=w2 at *;generalize w.heap.size=g0 at *;have l0:g0<w2:=hE.lt (q:=(g0,Am b)) (by simp);have l1:g0+1<w2:=hE.lt (AC);have c0:=cell_of_one (hE.kept (g0,Am b) (by simp));obtain⟨x0,x1,x2,x3,x4,x5,x6,_⟩:=Ba (hE.kept _ (AC));rcases hgn:gName nm with _ | _
 .rw[hgn] at hN
  go_region_with (go_at_call 91;refine (hN _ ah).mono ?_;rintro e w3 ⟨rfl,rfl⟩;refine skip_way w2.drew ⟨rfl,(show WPost base b l 0 w res _ _ by rw[a0.out,hgn];exact⟨rfl,l,0,hE.drew.wr,hE.drew.fw⟩)⟩ ?_)
  all_goals trivial
 rw[hgn] at hN;have b0:=Co hgn;have hP:=put_l hE.drew.wr ([111,110,32] ++ nm) (by simp;omega);rw[<-Rt] at hP
 go_cut [] from 7 to 13 (λ wc=>∃l3,Bk l ([111,110,32] ++ nm) l3/\In base b (fks b g0 (F9 nm true (.slice a1 ps.length q1) rs (.slice a2 bo.length q2) p)) l3 0 w wc)
 case first=>
  go_region_with (first
   |(go_at_call 91;refine (hN _ ah).mono ?_;rintro e w3 ⟨rfl,rfl⟩)
   |(go_at_call 60;refine hP.mono ?_;rintro e w4 ⟨rfl,l4,af,h4,a8⟩))
  all_goals (go_wp2_with fail;go_meet;exact⟨l4,af,hE.step h4 (AX 1 a8)⟩)
 case rest=>
  clear l0 l1 c0 x0 x1 x2 x3 x4 x5 x6 hN hP hE;obtain⟨l3,am,a3⟩:=hcut;have l0:g0<wc:=a3.lt (q:=(g0,Am b)) (by simp);have l1:g0+1<wc:=a3.lt (AC);have c0:=cell_of_one (a3.kept (g0,Am b) (by simp));obtain⟨x0,x1,x2,x3,x4,x5,x6,_⟩:=Ba (a3.kept _ (AC));have hC:=F8 (K:=94) (caps:=#[pt g0 0,pt (g0+1) 0]) (xs:=ps.map gSl) (Inv:=FnIn base b g0 (F9 nm true (.slice a1 ps.length q1) rs (.slice a2 bo.length q2) p) w) a3.wr (by simp;omega) Ar6 (Jv ab ad ag) (λ _ _ h hf=>h.step hf) ⟨a3.kept (g0,Am b) (by simp),a3.kept _ (AC),ar,a3.fw⟩;rw[length_map] at hC;clear ab ad ag;go_wp2_with fail;refine hC.mono ?_;rcases hqa:allS (ps.map gSl) with _ | zs
  .rintro e w4 ⟨rfl,l4,a9,h4,a8⟩;refine⟨rfl,?_⟩;rw[a0.out,hgn,if_pos rfl,hqa];exact⟨rfl,l4,a9,h4,a3.fw.trans a8⟩
  rintro e w4 ⟨rfl,l4,af,h4,a8⟩;have a5:=a3.step h4 a8;clear l0 l1 c0 x0 x1 x2 x3 x4 x5 x6 hC;have l0:g0<w4:=a5.lt (q:=(g0,Am b)) (by simp);have l1:g0+1<w4:=a5.lt (AC);have c0:=cell_of_one (a5.kept (g0,Am b) (by simp));obtain⟨x0,x1,x2,x3,x4,x5,x6,_⟩:=Ba (a5.kept _ (AC))
  go_upto_region 6 with fail
  rcases hgy:gType rs with _ | _
  .rw[hgy] at hY
   go_region_with (go_at_call 92;refine (hY _ aj).mono ?_;rintro e w5 ⟨rfl,rfl⟩;refine skip_way w4.drew ⟨rfl,(show WPost base b l 0 w res _ _ by rw[a0.out,hgn,if_pos rfl,hqa,hgy];exact⟨rfl,l4,0,a5.drew.wr,a5.drew.fw⟩)⟩ ?_)
   all_goals trivial
  rw[hgy] at hY;have az:=E9 hgy;have hP:=put_l a5.drew.wr ([58,32] ++ (rs ++ [32])) (by simp;omega);rw[<-Wj] at hP
  go_cut [] from 20 to 26 (λ wc=>∃l5,Bk l4 ([58,32] ++ (rs ++ [32])) l5/\In base b (fks b g0 (F9 nm true (.slice a1 ps.length q1) rs (.slice a2 bo.length q2) p)) l5 0 w wc)
  case first=>
   go_region_with (first
    |(go_at_call 92;refine (hY _ aj).mono ?_;rintro e w5 ⟨rfl,rfl⟩)
    |(go_at_call 60;refine hP.mono ?_;rintro e w6 ⟨rfl,l6,ae,h6,a6⟩))
   all_goals (go_wp2_with fail;go_meet;exact⟨l6,ae,a5.step h6 (AX 1 a6)⟩)
  case rest=>
   clear l0 l1 c0 x0 x1 x2 x3 x4 x5 x6 hY hP;obtain⟨l5,aw,a4⟩:=hcut;have l0:g0<wc:=a4.lt (q:=(g0,Am b)) (by simp);have l1:g0+1<wc:=a4.lt (AC);have c0:=cell_of_one (a4.kept (g0,Am b) (by simp));obtain⟨x0,x1,x2,x3,x4,x5,x6,_⟩:=Ba (a4.kept _ (AC));have hC:=hB l5 0 _ wc ak a4.wr (aq wc a4.fw);go_wp2_with fail;refine hC.mono ?_;rcases hqb:gBlk (gSts bo (indT 0)) (indT 0) bo.isEmpty with _ | y
   .rintro e w6 ⟨rfl,l6,a7,h6,a6⟩;refine⟨rfl,?_⟩;rw[a0.out,hgn,if_pos rfl,hqa,Option.bind_some,hgy,if_pos rfl,hqb];exact⟨rfl,l6,a7,h6,a4.fw.trans a6⟩
   .rintro e w6 ⟨rfl,l6,ae,h6,a6⟩;go_wp2
    go_end0
    rw[a0.out,hgn,if_pos rfl,hqa,Option.bind_some,hgy,if_pos rfl,hqb];exact⟨rfl,l6,by simpa using ((am.trans af).trans aw).trans ae,h6,a4.fw.trans a6⟩
theorem Av1{base:Nat}(f:GF)(hO:OkF f){l:AQ}(hW:Wr base b l 0 w)(hx:G5 (λ k=>k<base) w f cs) :
  AA 63 #[Bg b,.agg cs.toArray] w λ r w'=>WPost base b l 0 w (fnT (if f.on then [111,110,32] else [102,110,32]) f.name f.params f.result f.body) r w':=by
 obtain⟨nm,on,ps,rs,bo⟩:=f;cases on
 .exact Av0 hW hx hO
 .exact Az5 hW hx hO
end
section
open Go.RowKit
open Px (dg)
theorem In.tail{base:Nat}{q:Nat × Obj}{ks:List (Nat × Obj)}{l:AQ}{tabs:Nat}(h:In base b (q :: ks) l tabs w w'):In base b ks l tabs w w':=
 ⟨h.wr,λ q hq=>h.kept q (AH _ hq),λ q hq=>h.fine q (AH _ hq),h.fw⟩
structure OkP(p:GP):Prop where
 version:p.version<=9223372036854775807
 states:∀s∈p.states,OkL s
 fns:∀f∈p.fns,OkF f
def ssJ(ys:List (List UInt8)):List UInt8:=ys.flatMap λ y=>[115,116,97,116,101,32] ++ (y ++ [59,10])
def fsJ(ys:List (List UInt8)):List UInt8:=ys.flatMap λ y=>y
theorem Wk:∀l:List (List UInt8 × List UInt8),gSs l=(allS (l.map gSl)).map ssJ
 | []=>by simp[gSs,allS,ssJ]
 | s :: r=>by
  simp only[gSs,map_cons,allS,Wk r];rcases gSl s with _ | x <;> rcases allS (r.map gSl) with _ | xs <;> simp[ssJ]
theorem Wl:∀l:List GF,gFs l=(allS (l.map gFn)).map fsJ
 | []=>by simp[gFs,allS,fsJ]
 | s :: r=>by
  simp only[gFs,map_cons,allS,Wl r];rcases gFn s with _ | x <;> rcases allS (r.map gFn) with _ | xs <;> simp[fsJ]
theorem Az6{base:Nat}{fs:List GF}{row:AR}{ao:Option Addr}{cap:Nat}(hr:SlRow (λ k=>k<base) w 7 (.slice ao fs.length cap) fs.length row)(ha:Ef (λ k=>k<base) w fs row)(hF:FW base b w w'){q:Nat}{f:GF}(hq:fs[q]?=some f) :
  ∃(g o:Nat) (x y:ByteArray) (on:Bool) (a1:Option Addr) (n1 q1:Nat) (a2:Option Addr) (n2 q2:Nat) (p:Int),ao=some ⟨g,o,none⟩/\g<w' /\
   (w'.cell? ⟨g,o+q*7,none⟩=some (.string x)/\w'.cell? ⟨g,o+q*7+1,none⟩=some (.bool on)/\w'.cell? ⟨g,o+q*7+2,none⟩=some (.slice a1 n1 q1)/\w'.cell? ⟨g,o+q*7+3,none⟩=some (.string y)/\w'.cell? ⟨g,o+q*7+4,none⟩=some sZ/\w'.cell? ⟨g,o+q*7+5,none⟩=some (.slice a2 n2 q2)/\w'.cell? ⟨g,o+q*7+6,none⟩=some (iv p)) /\
   G5 (λ k=>k<base) w f [.string x,.bool on,.slice a1 n1 q1,.string y,sZ,.slice a2 n2 q2,iv p]:=by
 have a4:q<fs.length:=(AK hq).1;obtain⟨cx,kx,rx⟩:=ha.get hq;obtain⟨g,o,c,e0,_,_,a3,hg,hc⟩:=hr.cells (by omega);simp only[Value.slice.injEq] at e0;obtain⟨rfl,_,rfl⟩:=e0;have a0:=kx;obtain⟨pv,bv,p,rfl,⟨r1,h1,_⟩,⟨r2,h2,_⟩⟩:=kx;obtain⟨a1,q1,rfl,_⟩:=h1.slice;obtain⟨a2,q2,rfl,_⟩:=h2.slice;have f0:∀(j:Nat) (u:Value),j<7->([.string ⟨f.name.toArray⟩,.bool f.on,.slice a1 f.params.length q1,.string ⟨f.result.toArray⟩,sZ,.slice a2 f.body.length q2,iv p]:AR)[j]?=some u->w'.cell? ⟨g,o+q*7+j,none⟩=some u:=by
  intro j u hj hu;rw[Nat.add_assoc,hF.below.cell (p:=⟨g,o+(q*7+j),none⟩) a3];exact hc _ _ (by rw[rx j hj];exact hu)
 exact⟨g,o,_,_,_,_,_,_,_,_,_,p,rfl,by have:=hF.size;omega,⟨f0 0 _ (by omega) rfl,f0 1 _ (by omega) rfl,f0 2 _ (by omega) rfl,f0 3 _ (by omega) rfl,f0 4 _ (by omega) rfl,f0 5 _ (by omega) rfl,f0 6 _ (by omega) rfl⟩,a0⟩
theorem An7(y:AQ):((⟨#[118,101,114,115,105,111,110,32]⟩ ++ ⟨y.toArray⟩ ++ ⟨#[59,10]⟩:ByteArray))=⟨([118,101,114,115,105,111,110,32] ++ (y ++ [59,10])).toArray⟩:=by
 apply ByteArray.ext;simp[ByteArray.data_append]
theorem An8(ys:List (List UInt8))(y:AQ):ssJ (ys ++ [y])=ssJ ys ++ ([115,116,97,116,101,32] ++ (y ++ [59,10])):=by simp[ssJ]
theorem An9(ys:List (List UInt8))(y:AQ):fsJ (ys ++ [y])=fsJ ys ++ y:=by simp[fsJ]
abbrev Jw(cs:Array Value):Obj:=.cells cs 26 (0,0)
theorem Rx{base:Nat}{p:GP}(hO:OkP p){l:AQ}(hW:Wr base b l 0 w)(hx:Pi (λ k=>k<base) w p v) :
  AA 35 #[Bg b,v] w λ r w'=>WPost base b l 0 w (gPr p) r w':=by
 obtain⟨a5,ss,fs⟩:=p;obtain⟨bf,bg,rfl,⟨bb,ah,al⟩,⟨row2,ag,b3⟩⟩:=hx;simp only at ah al ag b3;obtain⟨a1,q1,rfl,bc⟩:=ah.slice;obtain⟨a2,q2,rfl,b9⟩:=ag.slice;obtain⟨ay,ai,b7⟩:=hO;simp only at ay ai b7;obtain⟨res,a0⟩:∃res:Option (List UInt8),Aside (res=gPr ⟨a5,ss,fs⟩):=⟨_,show _=_ from rfl⟩;rw[<-a0.out];rw[gPr] at a0;simp only[Wk,Wl] at a0;have hE:=(AY hW).alloc #[iv a5,.slice a1 ss.length q1,.slice a2 fs.length q2] 26 (by decide);have hS:=λ (q:Nat) (s:List UInt8 × List UInt8) (w':World) (hq:ss[q]?=some s) (hF:FW base b w w')=>Wi ah al hF hq
 have ax:=λ (q:Nat) (f:GF) (w':World) (hq:fs[q]?=some f) (hF:FW base b w w')=>Az6 ag b3 hF hq
 clear hW ah al ag b3;unfold maxLen at bc b9;go_enter func35,ntmps35;go_wp2_with fail;generalize w.alloc (.cells #[iv a5,.slice a1 ss.length q1,.slice a2 fs.length q2] 26)=w2 at *;generalize w.heap.size=g0 at *;have hN:=Lc a5 w2 hE.wr.tab ay;refine hN.mono ?_;by_cases hv:¬0<=a5
 .rw[if_neg hv];rintro e w3 ⟨rfl,ad⟩;refine⟨rfl,?_⟩;rw[a0.out,if_neg hv];exact⟨rfl,l,0,(hE.call ad).wr,(hE.call ad).fw⟩
 replace hv:0<=a5:=by omega
 rw[if_pos hv];rintro e w3 ⟨rfl,ad⟩;have aq:=hE.call ad;have ba:=Ab3 a5.toNat (by omega);replace a0:Aside (res=((allS (ss.map gSl)).map ssJ).bind λ x=>((allS (fs.map gFn)).map fsJ).map λ y=>([118,101,114,115,105,111,110,32] ++ (dg a5.toNat ++ [59,10])) ++ (x ++ y)):=by
  show _=_;rw[a0.out,if_pos hv];rcases allS (ss.map gSl) with _ | xs <;> rcases allS (fs.map gFn) with _ | ys <;> simp
 clear hN hE ad hv ay;generalize dg a5.toNat=dd at *;go_wp2_with fail;rw[An7];refine (put_l aq.wr ([118,101,114,115,105,111,110,32] ++ (dd ++ [59,10])) (by simp;omega)).mono ?_;rintro e w4 ⟨rfl,l4,b4,h4,b5⟩;have aj:=aq.step h4 b5;generalize [118,101,114,115,105,111,110,32] ++ (dd ++ [59,10])=hd at *;clear aq b5 h4 ba;have l0:g0<w4:=aj.lt (AC);obtain⟨x0,x1,x2,_⟩:=Ad (aj.kept _ (AC));go_wp2_with fail;clear l0 x0 x1 x2
 go_loopg [18] ss.length (λ g i wr=>∃(ys:List (List UInt8)) (lk:AQ),ys.length<=ss.length/\g=ss.length - ys.length/\i=iv ys.length/\(ss.take ys.length).map gSl=ys.map some/\Bk l (hd ++ ssJ ys) lk/\In base b [(g0,Jw #[iv a5,.slice a1 ss.length q1,.slice a2 fs.length q2])] lk 0 w wr)
 case atStart=>exact⟨[],l4,by simp,rfl,rfl,by simp,by simpa [ssJ] using b4,aj⟩
 case round=>
  clear b4 aj;obtain⟨ys,lk,hk,rfl,rfl,a9,ab,a3⟩:=hrel;by_cases hlt:ys.length<ss.length
  .clear ax;have b0:(ys.length:Int)<(ss.length:Int):=by omega
   obtain⟨s,hs⟩:∃s,ss[ys.length]?=some s:=⟨_,AN hlt⟩;obtain⟨g,o',x,y,pp,rfl,hg,⟨e0,e1,e2⟩,av⟩:=hS ys.length s wr hs a3.fw;have a8:s∈ss:=mem_of_getElem? hs;have a6:=a3.alloc #[.string x,.string y,iv pp] 40 (by decide);clear hS;go_wp2_with fail;generalize wr.alloc (.cells #[.string x,.string y,iv pp] 40)=w5 at *;generalize wr.heap.size=gg at *;refine (put_l a6.wr [115,116,97,116,101,32] (by simp)).mono ?_;rintro e w6 ⟨rfl,l6,b8,h6,b6⟩;have af:=a6.step h6 b6;have lg:gg<w6:=af.lt (AC);obtain⟨x0,x1,x2,_⟩:=Ad (af.kept _ (AC));have hC:=Ny h6 av (ai s a8).1 (ai s a8).2;clear e0 e1 e2 a6 b6;go_wp2_with fail;refine hC.mono ?_;rcases hq:gSl s with _ | z
   .rintro e w7 ⟨rfl,l7,a4,h7,aa⟩;refine⟨rfl,?_⟩;rw[a0.out,allS_none (xs:=ss.map gSl) (i:=ys.length) (by rw[List.getElem?_map,hs,Option.map_some,hq])];exact⟨rfl,l7,a4,h7,af.fw.trans aa⟩
   .rintro e w7 ⟨rfl,l7,az,h7,aa⟩;have ar:=af.step h7 aa;clear x0 x1 x2 lg hC;go_wp2_with fail;refine (put_l h7 [59,10] (by simp)).mono ?_;rintro e w8 ⟨rfl,l8,aw,h8,au⟩;have am:=(ar.step h8 au).tail;go_wp2_with fail;go_roundg (ss.length - (ys.length+1))
    case measure=>omega
    case rel=>
     refine⟨ys ++ [z],l8,by simp;omega,by simp,by simp,?_,?_,am⟩
     .rw[length_append,length_singleton,take_add_one,map_append,a9,hs];simp[hq]
     .rw[An8];simpa using ((ab.trans b8).trans az).trans aw
  .have b0:¬(ys.length:Int)<(ss.length:Int):=by omega
   have a7:ss.map gSl=ys.map some:=by
    rw[take_of_length_le (by omega)] at a9;exact a9
   replace a0:Aside (res=((allS (fs.map gFn)).map fsJ).map λ y=>(hd ++ ssJ ys) ++ y):=by
    show _=_;rw[a0.out,a7,allS_some];rcases allS (fs.map gFn) with _ | zs <;> simp
   clear hS a7 a9 hk ai;generalize hd ++ ssJ ys=hd2 at *;have l0:g0<wr:=a3.lt (AC);obtain⟨x0,x1,x2,_⟩:=Ad (a3.kept _ (AC));go_wp2_with fail;clear l0 x0 x1 x2
   go_loopg [33] fs.length (λ g i wr=>∃(zs:List (List UInt8)) (lk:AQ),zs.length<=fs.length/\g=fs.length - zs.length/\i=iv zs.length/\(fs.take zs.length).map gFn=zs.map some/\Bk l (hd2 ++ fsJ zs) lk/\In base b [(g0,Jw #[iv a5,.slice a1 ss.length q1,.slice a2 fs.length q2])] lk 0 w wr)
   case atStart=>exact⟨[],lk,by simp,rfl,rfl,by simp,by simpa [fsJ] using ab,a3⟩
   case round=>
    clear ab a3;obtain⟨zs,lk,hk,rfl,rfl,a9,ab,a3⟩:=hrel;by_cases hlt:zs.length<fs.length
    .have ae:(zs.length:Int)<(fs.length:Int):=by omega
     obtain⟨f,hf⟩:∃f,fs[zs.length]?=some f:=⟨_,AN hlt⟩;obtain⟨g,o',x,y,on,b1,n1,c1,b2,n2,c2,pp,rfl,hg,⟨e0,e1,e2,e3,e4,e5,e6⟩,av⟩:=ax zs.length f wr hf a3.fw;have a8:f∈fs:=mem_of_getElem? hf;have a6:=a3.alloc #[.string x,.bool on,.slice b1 n1 c1,.string y,sZ,.slice b2 n2 c2,iv pp] 36 (by decide);clear ax;go_wp2_with fail;generalize wr.alloc (.cells #[.string x,.bool on,.slice b1 n1 c1,.string y,sZ,.slice b2 n2 c2,iv pp] 36)=w5 at *;generalize wr.heap.size=gg at *;have hC:=Av1 f (b7 f a8) a6.wr (av.since a6.fw.since);refine hC.mono ?_;have ak:=Au9 f;rcases hq:fnT (if f.on then [111,110,32] else [102,110,32]) f.name f.params f.result f.body with _ | z
     .rw[hq] at ak;rintro e w7 ⟨rfl,l7,a4,h7,aa⟩;refine⟨rfl,?_⟩;rw[a0.out,allS_none (xs:=fs.map gFn) (i:=zs.length) (by rw[List.getElem?_map,hf,Option.map_some,ak];rfl)];exact⟨rfl,l7,a4,h7,a6.fw.trans aa⟩
     .rw[hq] at ak;rintro e w7 ⟨rfl,l7,az,h7,aa⟩;have ar:=a6.step h7 aa;clear e0 e1 e2 e3 e4 e5 e6 hC a6;go_wp2_with fail;refine (put_l h7 [10] (by simp)).mono ?_;rintro e w8 ⟨rfl,l8,aw,h8,au⟩;have am:=(ar.step h8 au).tail;go_wp2_with fail;go_roundg (fs.length - (zs.length+1))
      case measure=>omega
      case rel=>
       refine⟨zs ++ [z ++ [10]],l8,by simp;omega,by simp,by simp,?_,?_,am⟩
       .rw[length_append,length_singleton,take_add_one,map_append,a9,hf];simp[ak]
       .rw[An9];simpa using (ab.trans az).trans aw
    .have ae:¬(zs.length:Int)<(fs.length:Int):=by omega
     have a7:fs.map gFn=zs.map some:=by
      rw[take_of_length_le (by omega)] at a9;exact a9
     go_wp2
     go_end0
     rw[a0.out,a7,allS_some];exact⟨rfl,lk,ab,a3.wr,a3.fw⟩
end
section
open Px (Ex St Sl Pr exT WfE WfS Cg WfSl WfF WfP NmOk prT stT Ci)
open Lx (B Tok)
theorem R9{t:B}(h:VW 2 t m):m<=9223372036854775807:=by
 have h1:=h.reads [] (λ c hc=>by simp at hc);obtain⟨y,r,e,_,_⟩:=h.head;rw[append_nil,e] at h1;simp only[Lx.tokR] at h1;split at h1
 .unfold Lx.nameR at h1;split at h1 <;> simp[Lx.R.ok,Lx.R.bad] at h1
 split at h1
 .unfold Lx.numberR at h1;split at h1
  .simp[Lx.R.ok,Lx.R.bad] at h1
  split at h1
  .rename_i hv;simp only[Lx.R.ok,Sum.inl.injEq,Prod.mk.injEq] at h1;rw[h1.2.2.1] at hv;exact hv
  .simp[Lx.R.ok,Lx.R.bad] at h1
 split at h1
 .have:=Bi r.length r 1 [] 2 _ m _ (AD _) h1;omega
 .unfold Lx.markR at h1;split at h1 <;> simp[Lx.R.ok,Lx.R.bad] at h1
theorem Gz{t:B}(h:wordB t=true):t.length<=16:=by
 cases t with
 | nil=>simp
 | cons c r=>simp[wordB] at h;simp;omega
theorem Ls{t:B}(h:plainB t=true):t.length<=256:=by simp[plainB] at h;exact h.1
theorem Bo{n:Nat}(h:n<=256):n<=maxLen:=by unfold maxLen;omega
mutual
theorem Az8:∀e:Ex,WfE VW e->OkE (Mx e)
 | .mk k o n t args p,hw=>by
  rw[WfE] at hw;obtain⟨hf,hs⟩:=hw;rw[Mx,OkE];have ha:=Ur args hs;rcases hf with h | h | h | h | h | h | h | h
  .obtain⟨rfl,rfl,rfl,hl,x,hx⟩:=h;have:=R9 hx;exact⟨by omega,Bo (by simp),ha⟩
  .obtain⟨rfl,rfl,rfl,hl,hn⟩:=h;exact⟨by omega,Bo (by simp),ha⟩
  .obtain⟨rfl,rfl,rfl,hl,hv⟩:=h;have:=Ls (I5 hv);exact⟨by omega,Bo (by omega),ha⟩
  .obtain⟨rfl,rfl,rfl,hl,hr,hv⟩:=h;have:=Gz (Ie hv);exact⟨by omega,Bo (by omega),ha⟩
  .obtain⟨rfl,rfl,rfl,hr,hv⟩:=h;have:=Gz (Ie hv);exact⟨by omega,Bo (by omega),ha⟩
  .obtain⟨rfl,rfl,rfl,rfl,hl⟩:=h;exact⟨by omega,Bo (by simp),ha⟩
  .obtain⟨hk,rfl,rfl,rfl,hl⟩:=h;exact⟨by omega,Bo (by simp),ha⟩
  .obtain⟨rfl,h1,h2,rfl,rfl,hl⟩:=h;exact⟨by omega,Bo (by simp),ha⟩
theorem Ur:∀l:List Ex,Px.WfEs VW l->OkEs (B6 l)
 | [],_=>by rw[B6,OkEs];trivial
 | e :: r,hw=>by
  rw[Px.WfEs] at hw;rw[B6,OkEs];exact⟨Az8 e hw.1,Ur r hw.2⟩
end
theorem G0{t:B}(h:NmOk VW t):t.length<=maxLen:=Bo (by have:=Gz (Ie h.2);omega)
mutual
theorem Az9:∀s:St,WfS VW s->OkS (Pf s)/\gsD (Pf s)<=(stT s).length
 | .mk k n es b c p,hw=>by
  rw[WfS] at hw;obtain⟨hf,he,hb,hc⟩:=hw;rw[Pf,OkS,gsD,stT];have h1:=Pw b hb;have h2:=Pw c hc;have h3:=Ur es (Px.WfEs_all.2 he);rcases hf with h | h | h | h | h | h
  .obtain⟨rfl,hn,hl,rfl,rfl⟩:=h;exact⟨⟨G0 hn,h3,h1.1,h2.1⟩,by simp[ofSts,Eg,Px.stK]⟩
  .obtain⟨rfl,hn,hl,rfl,rfl⟩:=h;refine⟨⟨G0 hn,h3,h1.1,h2.1⟩,?_⟩;simp only[ofSts,Eg,Px.stK];simp only[show ¬(2=1) by decide,if_false,if_true];split <;> simp
  .obtain⟨rfl,hn,hl,rfl,rfl⟩:=h;exact⟨⟨G0 hn,h3,h1.1,h2.1⟩,by simp[ofSts,Eg,Px.stK]⟩
  .obtain⟨rfl,rfl,hl⟩:=h;refine⟨⟨Bo (by simp),h3,h1.1,h2.1⟩,?_⟩;have a1:=h1.2;have a2:=h2.2;rcases c with _ | ⟨c1,c2⟩
   .simp[Px.stK,Px.blk,ofSts,Eg];omega
   .simp[Px.stK,Px.blk];omega
  .obtain⟨rfl,hn,hl,rfl⟩:=h;refine⟨⟨G0 hn,h3,h1.1,h2.1⟩,?_⟩;have a1:=h1.2;simp[Px.stK,Px.blk,ofSts,Eg];omega
  .obtain⟨rfl,rfl,hl,rfl,rfl⟩:=h;exact⟨⟨Bo (by simp),h3,h1.1,h2.1⟩,by simp[ofSts,Eg,Px.stK]⟩
theorem Pw:∀l:List St,Cg VW l->OkSs (ofSts l)/\Eg (ofSts l)<=(Ci l).length
 | [],_=>by rw[ofSts,OkSs,Eg];exact⟨trivial,by simp⟩
 | s :: r,hw=>by
  rw[Cg] at hw;rw[ofSts,OkSs,Eg,Ci];have h1:=Az9 s hw.1;have h2:=Pw r hw.2;exact⟨⟨h1.1,h2.1⟩,by simp;omega⟩
end
theorem Ws{y:B}(h:∃c,Px.Ty 4 y c):y.length<=maxLen:=by
 have hg:gType y=true:=by unfold gType;rw[if_pos (show Px.IsTy 4 y from h)]
 exact Bo (by have:=E9 hg;omega)
theorem As0{s:Sl}(h:WfSl VW s):OkL (Pg s):=⟨G0 h.1,Ws h.2⟩
theorem Ba0{f:Px.Fn}(h:WfF VW f)(hc:(Px.fnT f).length<=4096):OkF (ofFn f):=by
 obtain⟨hn,hp,hy,hb,hd⟩:=h;have h1:=Pw f.body hb;refine⟨G0 hn,Ws hy,?_,h1.1,?_⟩
 .intro s hs;simp only[ofFn,mem_map] at hs;obtain⟨x,hx,rfl⟩:=hs;exact As0 (hp x hx)
 .show 0+1+Eg (ofSts f.body)<=_;simp[Px.fnT,Px.blk] at hc;have:=h1.2;omega
theorem Kh:∀{l:List Px.Fn} {f:Px.Fn},f∈l->(Px.fnT f).length<=(Px.fsT l).length
 | [],f,h=>by simp at h
 | a :: r,f,h=>by
  rw[Px.fsT];rcases mem_cons.1 h with rfl | h
  .simp;omega
  .have:=Kh h;simp;omega
theorem Av9{p:Pr}(h:WfP VW p)(hc:(prT p).length<=4096):OkP (ofPr p):=by
 obtain⟨⟨x,hx⟩,hs,hf⟩:=h;refine⟨?_,?_,?_⟩
 .have:=R9 hx;show (p.version:Int)<=_;omega
 .intro s hss;simp only[ofPr,mem_map] at hss;obtain⟨y,hy,rfl⟩:=hss;exact As0 (hs y hy)
 .intro f hff;simp only[ofPr,mem_map] at hff;obtain⟨y,hy,rfl⟩:=hff;refine Ba0 (hf y hy) ?_;have:=Kh hy;simp[prT] at hc;omega
end
end Go.Proofs.YtpckmjfabiallaaGreatDoor
