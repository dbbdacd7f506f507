/- Texts of ours, joined. -/
import Derived.Test.YtpckmjfabiallaaGreatDoorH14
set_option linter.unusedVariables false
set_option linter.unusedSimpArgs false
set_option maxRecDepth 100000
set_option maxHeartbeats 16000000
namespace Go.Proofs.YtpckmjfabiallaaGreatDoor
variable{b:Nat}{cs:List Value}{w:World}
open Tryz
section
open Go.RowKit
theorem Wx{base:Nat}  {n:AQ} {a:GE} {bo el:List GS} {l:AQ} {tabs:Nat}   (hW:Wr base b l tabs w) (hx:IsGS (λ k=>k<base) w (.mk 2 n [a] bo el) cs) (aj:n.length<=maxLen) (aq:Dc base b a) :
  AA 128 #[Bh b,.agg cs.toArray] w λ r w'=>WPost base b l tabs w (if gName n then (gE a).map λ x=>[115,101,116,32] ++ (n ++ ([32,61,32] ++ (x ++ [59]))) else none) r w':=by
 obtain⟨res,a0⟩:∃res:Option (List UInt8),Aside (res=if gName n then (gE a).map λ x=>[115,101,116,32] ++ (n ++ ([32,61,32] ++ (x ++ [59]))) else none):=⟨_,show _=_ from rfl⟩;rw[<-a0.out];rw[IsGS] at hx;obtain⟨x,y,p,f,s1,s2,s3,r1,r2,r3,rfl,aa,af,a8,ak,ab,ag⟩:=hx;obtain⟨a1,q1,rfl,av⟩:=aa.slice;obtain⟨a2,q2,rfl,am⟩:=a8.slice;obtain⟨a3,q3,rfl,au⟩:=ab.slice;have ax:∀w',FW base b w w'->B1 (λ k=>k<base) w' bo (.slice a2 bo.length q2):=λ w' hF=>⟨r2,a8.since hF.since,ak.since hF.since⟩
 have az:∀w',FW base b w w'->B1 (λ k=>k<base) w' el (.slice a3 el.length q3):=λ w' hF=>⟨r3,ab.since hF.since,ag.since hF.since⟩
 have ae:=λ (q:Nat) (e:GE) (w':World) (hq:([a]:List GE)[q]?=some e) (hF:FW base b w w')=>Cw aa af hF hq
 obtain⟨g,o',u0,u1,u2,u3,u4,u5,u6,u7,rfl,hg,⟨e0,e1,e2,e3,e4,e5,e6,e7⟩,ad⟩:=ae 0 a w rfl (AY _ _ _);obtain⟨k1,o1,n1,t1,a7,a6,b1,m1,c1,p1,ai⟩:=ad.shows;simp only[List.cons.injEq,and_true] at ai;obtain⟨rfl,rfl,rfl,rfl,rfl,rfl,rfl,rfl⟩:=ai;simp only[Nat.zero_mul,Nat.add_zero] at e0 e1 e2 e3 e4 e5 e6 e7;have hE:=In.sboxes hW (gsBox 2 n x f y (sL g o' 1 q1) (.slice a2 bo.length q2) (.slice a3 el.length q3) p) #[iv k1,iv o1,iv n1,.string t1,iv a7,.string a6,.slice b1 m1 c1,iv p1];have aw:∀w',FW base b w w'->IsGE (λ k=>k<base) w' a [iv k1,iv o1,iv n1,.string t1,iv a7,.string a6,.slice b1 m1 c1,iv p1]:=λ w' hF=>ad.since hF.since
 clear aa af a8 ak ab ag av am hW ad;unfold maxLen at au;go_enter func128,ntmps128;go_wp2_with fail;refine (need_ok _).mono ?_;rintro e w1 ⟨rfl,rfl⟩;have hN:=Da n;rcases hgn:gName n with _ | _
 .rw[hgn] at hN;go_wp2_with fail;generalize ((w.alloc (sBox (gsBox 2 n x f y (sL g o' 1 q1) (.slice a2 bo.length q2) (.slice a3 el.length q3) p))).alloc (xBox #[iv k1,iv o1,iv n1,.string t1,iv a7,.string a6,.slice b1 m1 c1,iv p1]))=w2 at *;generalize w.heap.size=g0 at *;have l0:g0<w2.heap.size:=hE.lt (AH _ (AC));have l1:g0+1<w2.heap.size:=hE.lt (AC);obtain⟨x0,x1,x2,x3,x4,x5,x6,x7,_⟩:=Ab (hE.kept _ (AC));obtain⟨z0,z1,z2,z3,z4,z5,z6,z7,z8,_⟩:=Ad (hE.kept _ (AH _ (AC)));refine (hN _ aj).mono ?_;rintro e w3 ⟨rfl,rfl⟩;refine⟨rfl,?_⟩;rw[a0.out,hgn];exact⟨rfl,l,tabs,hE.wr,hE.fw⟩
 have ay:=Ch hgn;rw[hgn] at hN;go_wp2_with fail;generalize ((w.alloc (sBox (gsBox 2 n x f y (sL g o' 1 q1) (.slice a2 bo.length q2) (.slice a3 el.length q3) p))).alloc (xBox #[iv k1,iv o1,iv n1,.string t1,iv a7,.string a6,.slice b1 m1 c1,iv p1]))=w2 at *;generalize w.heap.size=g0 at *;have l0:g0<w2.heap.size:=hE.lt (AH _ (AC));have l1:g0+1<w2.heap.size:=hE.lt (AC);obtain⟨x0,x1,x2,x3,x4,x5,x6,x7,_⟩:=Ab (hE.kept _ (AC));obtain⟨z0,z1,z2,z3,z4,z5,z6,z7,z8,_⟩:=Ad (hE.kept _ (AH _ (AC)));refine (hN _ aj).mono ?_;rintro e w2' ⟨rfl,rfl⟩;go_wp2_with fail;rw[Qu];refine (put_l hE.wr ([115,101,116,32] ++ n) (by simp;omega)).mono ?_;rintro e w3 ⟨rfl,l3,ar,h3,ah⟩;have a4:=hE.step h3 ah;clear l0 l1 x0 x1 x2 x3 x4 x5 x6 x7 z0 z1 z2 z3 z4 z5 z6 z7 z8 hN ah;have l0:g0<w3.heap.size:=a4.lt (AH _ (AC));have l1:g0+1<w3.heap.size:=a4.lt (AC);obtain⟨x0,x1,x2,x3,x4,x5,x6,x7,_⟩:=Ab (a4.kept _ (AC));obtain⟨z0,z1,z2,z3,z4,z5,z6,z7,z8,_⟩:=Ad (a4.kept _ (AH _ (AC)));have hC:=Ij aq a4.wr (aw w3 a4.fw);go_wp2_with fail;refine hC.mono ?_;rcases hq:gE a with _ | x
 .rintro e w9 ⟨rfl,l9,a5,h9,a9⟩;refine⟨rfl,?_⟩;rw[a0.out,hgn,if_pos rfl,hq];exact⟨rfl,l9,a5,h9,a4.fw.trans a9⟩
 .rintro e w9 ⟨rfl,l9,al,h9,a9⟩;go_wp2
  go_end0
  rw[a0.out,hgn,if_pos rfl,hq];exact⟨rfl,l9,by simpa using ar.trans al,h9,a4.fw.trans a9⟩
theorem Zy{base:Nat}  {n:AQ} {a:GE} {bo el:List GS} {l:AQ} {tabs:Nat}   (hW:Wr base b l tabs w) (hx:IsGS (λ k=>k<base) w (.mk 6 n [a] bo el) cs) (au:Dc base b a) :
  AA 128 #[Bh b,.agg cs.toArray] w λ r w'=>WPost base b l tabs w ((gE a).map λ x=>[114,101,116,32] ++ (x ++ [59])) r w':=by
 obtain⟨res,a4⟩:∃res:Option (List UInt8),Aside (res=(gE a).map λ x=>[114,101,116,32] ++ (x ++ [59])):=⟨_,show _=_ from rfl⟩;rw[<-a4.out];rw[IsGS] at hx;obtain⟨x,y,p,f,s1,s2,s3,r1,r2,r3,rfl,a9,ag,a8,al,ab,ah⟩:=hx;obtain⟨a1,q1,rfl,ay⟩:=a9.slice;obtain⟨a2,q2,rfl,aq⟩:=a8.slice;obtain⟨a3,q3,rfl,ax⟩:=ab.slice;have b0:∀w',FW base b w w'->B1 (λ k=>k<base) w' bo (.slice a2 bo.length q2):=λ w' hF=>⟨r2,a8.since hF.since,al.since hF.since⟩
 have b3:∀w',FW base b w w'->B1 (λ k=>k<base) w' el (.slice a3 el.length q3):=λ w' hF=>⟨r3,ab.since hF.since,ah.since hF.since⟩
 have af:=λ (q:Nat) (e:GE) (w':World) (hq:([a]:List GE)[q]?=some e) (hF:FW base b w w')=>Cw a9 ag hF hq
 obtain⟨g,o',u0,u1,u2,u3,u4,u5,u6,u7,rfl,hg,⟨e0,e1,e2,e3,e4,e5,e6,e7⟩,ad⟩:=af 0 a w rfl (AY _ _ _);obtain⟨k1,o1,n1,t1,ae,aa,b1,m1,c1,p1,ak⟩:=ad.shows;simp only[List.cons.injEq,and_true] at ak;obtain⟨rfl,rfl,rfl,rfl,rfl,rfl,rfl,rfl⟩:=ak;simp only[Nat.zero_mul,Nat.add_zero] at e0 e1 e2 e3 e4 e5 e6 e7;have hE:=In.sboxes hW (gsBox 6 n x f y (sL g o' 1 q1) (.slice a2 bo.length q2) (.slice a3 el.length q3) p) #[iv k1,iv o1,iv n1,.string t1,iv ae,.string aa,.slice b1 m1 c1,iv p1];have az:∀w',FW base b w w'->IsGE (λ k=>k<base) w' a [iv k1,iv o1,iv n1,.string t1,iv ae,.string aa,.slice b1 m1 c1,iv p1]:=λ w' hF=>ad.since hF.since
 clear a9 ag a8 al ab ah ay aq hW ad;unfold maxLen at ax;go_enter func128,ntmps128;go_wp2_with fail;refine (need_ok _).mono ?_;rintro e w1 ⟨rfl,rfl⟩;go_wp2_with fail;generalize ((w.alloc (sBox (gsBox 6 n x f y (sL g o' 1 q1) (.slice a2 bo.length q2) (.slice a3 el.length q3) p))).alloc (xBox #[iv k1,iv o1,iv n1,.string t1,iv ae,.string aa,.slice b1 m1 c1,iv p1]))=w2 at *;generalize w.heap.size=g0 at *;have l0:g0<w2.heap.size:=hE.lt (AH _ (AC));have l1:g0+1<w2.heap.size:=hE.lt (AC);obtain⟨x0,x1,x2,x3,x4,x5,x6,x7,_⟩:=Ab (hE.kept _ (AC));obtain⟨z0,z1,z2,z3,z4,z5,z6,z7,z8,_⟩:=Ad (hE.kept _ (AH _ (AC)));refine (put_l hE.wr [114,101,116,32] (by simp)).mono ?_;rintro e w3 ⟨rfl,l3,aw,h3,ai⟩;have a0:=hE.step h3 ai;clear l0 l1 x0 x1 x2 x3 x4 x5 x6 x7 z0 z1 z2 z3 z4 z5 z6 z7 z8 ai;have l0:g0<w3.heap.size:=a0.lt (AH _ (AC));have l1:g0+1<w3.heap.size:=a0.lt (AC);obtain⟨x0,x1,x2,x3,x4,x5,x6,x7,_⟩:=Ab (a0.kept _ (AC));obtain⟨z0,z1,z2,z3,z4,z5,z6,z7,z8,_⟩:=Ad (a0.kept _ (AH _ (AC)));have aj:=au.top a0.wr (az w3 a0.fw);go_wp2_with fail;refine aj.mono ?_;rcases hq0:gE a with _ | x'
 .rintro e w4 ⟨rfl,l4,a6,h4,a7⟩;refine⟨rfl,?_⟩;rw[a4.out,hq0];exact⟨rfl,l4,a6,h4,a0.fw.trans a7⟩
 rintro e w4 ⟨rfl,l4,am,h4,a7⟩;have a5:=a0.step h4 a7;clear l0 l1 x0 x1 x2 x3 x4 x5 x6 x7 z0 z1 z2 z3 z4 z5 z6 z7 z8 aj a7;have l0:g0<w4.heap.size:=a5.lt (AH _ (AC));have l1:g0+1<w4.heap.size:=a5.lt (AC);obtain⟨x0,x1,x2,x3,x4,x5,x6,x7,_⟩:=Ab (a5.kept _ (AC));obtain⟨z0,z1,z2,z3,z4,z5,z6,z7,z8,_⟩:=Ad (a5.kept _ (AH _ (AC)));go_wp2_with fail;refine (put_l a5.wr [59] (by simp)).mono ?_;rintro e w5 ⟨rfl,l5,av,h5,ar⟩;go_wp2
 go_end0
 rw[a4.out,hq0];exact⟨rfl,l5,by simpa using (aw.trans am).trans av,h5,a5.fw.trans ar⟩
theorem Wz{base:Nat}{k:Int}{n:AQ}{a:GE}{bo el:List GS}{l:AQ}{tabs:Nat}(hW:Wr base b l tabs w)(hx:IsGS (λ k=>k<base) w (.mk k n [a] bo el) cs)(hk:k≠1/\k≠2/\k≠3/\k≠4/\k≠5/\k≠6) :
  AA 128 #[Bh b,.agg cs.toArray] w λ r w'=>WPost base b l tabs w (none) r w':=by
 obtain⟨res,a0⟩:∃res:Option (List UInt8),Aside (res=none):=⟨_,show _=_ from rfl⟩;rw[<-a0.out];rw[IsGS] at hx;obtain⟨x,y,p,f,s1,s2,s3,r1,r2,r3,rfl,a5,ab,a4,af,a7,ad⟩:=hx;obtain⟨a1,q1,rfl,ai⟩:=a5.slice;obtain⟨a2,q2,rfl,ag⟩:=a4.slice;obtain⟨a3,q3,rfl,ah⟩:=a7.slice;have aq:∀w',FW base b w w'->B1 (λ k=>k<base) w' bo (.slice a2 bo.length q2):=λ w' hF=>⟨r2,a4.since hF.since,af.since hF.since⟩
 have ar:∀w',FW base b w w'->B1 (λ k=>k<base) w' el (.slice a3 el.length q3):=λ w' hF=>⟨r3,a7.since hF.since,ad.since hF.since⟩
 have aa:=λ (q:Nat) (e:GE) (w':World) (hq:([a]:List GE)[q]?=some e) (hF:FW base b w w')=>Cw a5 ab hF hq
 obtain⟨g,o',u0,u1,u2,u3,u4,u5,u6,u7,rfl,hg,⟨e0,e1,e2,e3,e4,e5,e6,e7⟩,a8⟩:=aa 0 a w rfl (AY _ _ _);obtain⟨k1,o1,n1,t1,a9,a6,b1,m1,c1,p1,ae⟩:=a8.shows;simp only[List.cons.injEq,and_true] at ae;obtain⟨rfl,rfl,rfl,rfl,rfl,rfl,rfl,rfl⟩:=ae;simp only[Nat.zero_mul,Nat.add_zero] at e0 e1 e2 e3 e4 e5 e6 e7;have hE:=In.sboxes hW (gsBox k n x f y (sL g o' 1 q1) (.slice a2 bo.length q2) (.slice a3 el.length q3) p) #[iv k1,iv o1,iv n1,.string t1,iv a9,.string a6,.slice b1 m1 c1,iv p1];have av:∀w',FW base b w w'->IsGE (λ k=>k<base) w' a [iv k1,iv o1,iv n1,.string t1,iv a9,.string a6,.slice b1 m1 c1,iv p1]:=λ w' hF=>a8.since hF.since
 clear a5 ab a4 af a7 ad ai ag hW a8;unfold maxLen at ah;have aj:(k == 1)=false:=by simpa using hk.1
 have am:(k == 2)=false:=by simpa using hk.2.1
 have al:(k == 3)=false:=by simpa using hk.2.2.1
 have aw:(k == 4)=false:=by simpa using hk.2.2.2.1
 have ak:(k == 5)=false:=by simpa using hk.2.2.2.2.1
 have au:(k == 6)=false:=by simpa using hk.2.2.2.2.2
 clear hk;go_enter func128,ntmps128;go_wp2_with fail;refine (need_ok _).mono ?_;rintro e w1 ⟨rfl,rfl⟩;go_wp2_with fail;generalize ((w.alloc (sBox (gsBox k n x f y (sL g o' 1 q1) (.slice a2 bo.length q2) (.slice a3 el.length q3) p))).alloc (xBox #[iv k1,iv o1,iv n1,.string t1,iv a9,.string a6,.slice b1 m1 c1,iv p1]))=w2 at *;generalize w.heap.size=g0 at *;have l0:g0<w2.heap.size:=hE.lt (AH _ (AC));have l1:g0+1<w2.heap.size:=hE.lt (AC);obtain⟨x0,x1,x2,x3,x4,x5,x6,x7,_⟩:=Ab (hE.kept _ (AC));obtain⟨z0,z1,z2,z3,z4,z5,z6,z7,z8,_⟩:=Ad (hE.kept _ (AH _ (AC)));refine (need_no _).mono ?_;rintro e w3 ⟨rfl,rfl⟩;refine⟨rfl,?_⟩;rw[a0.out];exact⟨rfl,l,tabs,hE.wr,hE.fw⟩
end
end Go.Proofs.YtpckmjfabiallaaGreatDoor
