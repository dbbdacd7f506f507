/- Texts of ours, joined. -/
import Derived.Test.YtpckmjfabiallaaGreatDoorI02
import Derived.Lib.AppendZeros
set_option linter.unusedVariables false
set_option linter.unusedSimpArgs false
set_option maxRecDepth 100000
set_option maxHeartbeats 16000000
namespace Go.Proofs.YtpckmjfabiallaaGreatDoor
variable{T:TypeId}{b g i j mb n0 p:Nat}{fs s1 sl ss v v0 y0 y1 y2 y3 y4 y5:Value}{w w' w1 w2:World}{x:List UInt8}
open List
open Tryz
section
open Go.RowKit
open Ck (CE CS CF CP Mng)
attribute [local go_sem ↓] Go.wp_at_zero Go.wp_at_succ
theorem S1{k o n:Nat}{t:AQ}{args:List Px.Ex}{c:Ck.Cx}{B:AS}{row:AR}(hE:∀x∈args,EOk x)(a4:Ck.bkind t≠0)(hc:CkAt w b mb c)(a3:CxOk c)(hr:SlRow B w 8 sl args.length row)(ha:Ai B w args row) :
  AA 193 #[pt b 0,.agg (exA k o n t sl p)] w λ e w'=>Af w (Ck.builtin t p (Ck.cEs c args)) e w':=by
 have a0:Ck.bkind t=8\/Ck.bkind t=9\/Ck.bkind t=10\/Ck.bkind t=11:=by
  unfold Ck.bkind at a4 ⊢;split
  .exact AI rfl
  .split
   .exact AJ (AI rfl)
   .split
    .exact AJ (AJ (AI rfl))
    .split
     .exact AJ (AJ (AJ rfl))
     .exact absurd (by simp[*]) a4
 rcases a0 with h | h | h | h
 .by_cases hl:args.length=1
  .obtain⟨x,rfl⟩:=length_eq_one_iff.1 hl;exact Sy (hE x (by simp)) h hc a3 hr ha
  .exact Sw (mb:=mb) h hr hl
 .by_cases hl:args.length=2
  .obtain⟨x,y,rfl⟩:∃x y,args=[x,y]:=by match args,hl with | [x,y],_=>exact⟨x,y,rfl⟩
   exact Sz (hE x (by simp)) (hE y (by simp)) h hc a3 hr ha
  .exact Sx (mb:=mb) h hr hl
 .by_cases hl:args.length=2
  .obtain⟨x,y,rfl⟩:∃x y,args=[x,y]:=by match args,hl with | [x,y],_=>exact⟨x,y,rfl⟩
   exact Qe (hE x (by simp)) (hE y (by simp)) h hc a3 hr ha
  .exact Qb (mb:=mb) h hr hl
 .by_cases hl:args.length=1
  .obtain⟨x,rfl⟩:=length_eq_one_iff.1 hl;exact Qd (hE x (by simp)) h hc a3 hr ha
  .exact Qc (mb:=mb) h hr hl
theorem Va{o n:Nat}{t:AQ}{args:List Px.Ex}{c:Ck.Cx}{B:AS}{row:AR}(hc:CkAt w b mb c)(al:CxOk c)(hr:SlRow B w 8 sl args.length row)(ha:Ai B w args row) :
  AA 168 #[pt b 0,.agg (exA 6 o n t sl p)] w λ e w'=>Af w (Ck.name c t p) e w':=by
 obtain⟨k,Hk⟩:∃k:Nat,Hid (6=k):=⟨_,rfl⟩;have s1:((k:Int) == 1)=false:=by rw[<-Hk.out];rfl
 have s2:((k:Int) == 2)=false:=by rw[<-Hk.out];rfl
 have s3:((k:Int) == 3)=false:=by rw[<-Hk.out];rfl
 have s6:((k:Int) == 6)=true:=by rw[<-Hk.out];rfl
 rw[Hk.out];obtain⟨w0,w1,ag,ae,l0,l1,a3,ai,ah⟩:=A0 w (iv k) (iv o) (iv n) (strV t) (iv 0) sE sl (iv p);have aa:=hc.keep a3;have ad:=hr.since (Since.of_below a3);have ab:=ha.since (Since.of_below a3);have hC:=Yz aa t p k o n 0 ⟨#[]⟩ sl
 try rw[Hk.out] at hC
 obtain⟨ao,cap,rfl,-,-⟩:=hr.val;obtain⟨d0,d1,d2,d3,d4,d5,d6,d7,-⟩:=Ac ai;obtain⟨C,HC⟩:∃C,Hid ((Ck.name c t p)=C):=⟨_,rfl⟩;rw[HC.out] at hC ⊢;clear hc hr ha ad ab aa HC Hk;go_enter func168,ntmps168;go_wp2_with fail;refine hC.mono ?_;rintro e w2 hP;clear hC ag ae;rcases C with⟨k2,o2,n2,t2,s2,y2,a0⟩ | ⟨a,er⟩
 rotate_left
 .obtain⟨hm,a4⟩:=hP;obtain rfl:=hm;exact⟨rfl,rfl,a3.trans (a4.mono (by omega))⟩
 obtain⟨sl2,row2,rfl,a6,a9,a4⟩:=hP.inl;obtain⟨a2,c2,rfl,-,-⟩:=a6.val;have ak:=a4.size;have a7:=(a4.block _ l1).trans ah;obtain⟨r0,r1,r2,r3,r4,r5,r6,r7,t0,t1,aj,t3,am,t5,t6,t7⟩:=Ac a7;have af:w0<w2.heap.size:=(AB a7).1;have a5:Af w (.inl (.mk k2 o2 n2 t2 s2 y2 a0)) (.returned (.agg #[iv k2,iv o2,iv n2,strV t2,iv s2,strV y2,.slice a2 a0.length c2,iv 0])) (setc8 w2 w0 (iv k2) (iv o2) (iv n2) (strV t2) (iv s2) (strV y2) (.slice a2 a0.length c2) (iv 0)):=by
  have a8:Since (From w1) w2 (setc8 w2 w0 (iv k2) (iv o2) (iv n2) (strV t2) (iv s2) (strV y2) (.slice a2 a0.length c2) (iv 0)):=⟨by rw[A4];exact AD _,λ j h3 h4=>A3 (by have:w1.heap.size<=j:=h3;omega) _ _ _ _ _ _ _ _⟩;exact⟨⟨_,_,rfl,(a6.since a8).base' (λ j hj _=>by show w.heap.size<=j;have:w1.heap.size<=j:=hj;omega),(a9.since a8).base (λ j hj _=>by show w.heap.size<=j;have:w1.heap.size<=j:=hj;omega)⟩,As (a3.trans (a4.mono (by omega))) (by omega) _ _ _ _ _ _ _ _⟩
 clear hP a6 a9 a7;go_wp2_with fail;exact bodyPost_ret (by simp[results,results168,go_sem,af,r0,r1,r2,r3,r4,r5,r6,r7]) rfl a5
theorem Vb{o n:Nat}{t:AQ}{args:List Px.Ex}{c:Ck.Cx}{B:AS}{row:AR}(hc:CkAt w b mb c)(af:CxOk c)(hr:SlRow B w 8 sl args.length row)(ha:Ai B w args row)(hE:∀x∈args,EOk x)(ag:args.length<=1000000)(ah:Ck.bkind t=0) :
  AA 168 #[pt b 0,.agg (exA 7 o n t sl p)] w λ e w'=>Af w (Ck.call c t p (Ck.cEs c args)) e w':=by
 obtain⟨k,Hk⟩:∃k:Nat,Hid (7=k):=⟨_,rfl⟩;have s1:((k:Int) == 1)=false:=by rw[<-Hk.out];rfl
 have s2:((k:Int) == 2)=false:=by rw[<-Hk.out];rfl
 have s3:((k:Int) == 3)=false:=by rw[<-Hk.out];rfl
 have s6:((k:Int) == 6)=false:=by rw[<-Hk.out];rfl
 have s7:((k:Int) == 7)=true:=by rw[<-Hk.out];rfl
 rw[Hk.out];obtain⟨w0,w1,ak,ai,l0,l1,a3,am,al⟩:=A0 w (iv k) (iv o) (iv n) (strV t) (iv 0) sE sl (iv p);have ae:=hc.keep a3;have aa:=hr.since (Since.of_below a3);have a8:=ha.since (Since.of_below a3);have aq:(Ck.bkind t != 0)=false:=by rw[ah];rfl
 have hC:=Ai9 (o:=o) (n:=n) (t:=t) (p:=p) hE ae af aa a8 ag
 try rw[Hk.out] at hC
 obtain⟨ao,cap,rfl,-,-⟩:=hr.val;obtain⟨d0,d1,d2,d3,d4,d5,d6,d7,-⟩:=Ac am;obtain⟨C,HC⟩:∃C,Hid ((Ck.call c t p (Ck.cEs c args))=C):=⟨_,rfl⟩;rw[HC.out] at hC ⊢;clear hc hr ha aa a8 ae HC Hk;go_enter func168,ntmps168;go_wp2_with fail;refine (Gk t w1).mono ?_;rintro e w2 ⟨rfl,a9⟩;obtain rfl:=a9.symm;rw[aq];clear a9;go_wp2_with fail;refine hC.mono ?_;rintro e w2 hP;clear hC ak ai;rcases C with⟨k2,o2,n2,t2,s2,y2,a0⟩ | ⟨a,er⟩
 rotate_left
 .obtain⟨hm,a4⟩:=hP;obtain rfl:=hm;exact⟨rfl,rfl,a3.trans (a4.mono (by omega))⟩
 obtain⟨sl2,row2,rfl,a6,ad,a4⟩:=hP.inl;obtain⟨a2,c2,rfl,-,-⟩:=a6.val;have au:=a4.size;have a7:=(a4.block _ l1).trans al;obtain⟨r0,r1,r2,r3,r4,r5,r6,r7,t0,t1,ar,t3,av,t5,t6,t7⟩:=Ac a7;have aj:w0<w2.heap.size:=(AB a7).1;have a5:Af w (.inl (.mk k2 o2 n2 t2 s2 y2 a0)) (.returned (.agg #[iv k2,iv o2,iv n2,strV t2,iv s2,strV y2,.slice a2 a0.length c2,iv 0])) (setc8 w2 w0 (iv k2) (iv o2) (iv n2) (strV t2) (iv s2) (strV y2) (.slice a2 a0.length c2) (iv 0)):=by
  have ab:Since (From w1) w2 (setc8 w2 w0 (iv k2) (iv o2) (iv n2) (strV t2) (iv s2) (strV y2) (.slice a2 a0.length c2) (iv 0)):=⟨by rw[A4];exact AD _,λ j h3 h4=>A3 (by have:w1.heap.size<=j:=h3;omega) _ _ _ _ _ _ _ _⟩;exact⟨⟨_,_,rfl,(a6.since ab).base' (λ j hj _=>by show w.heap.size<=j;have:w1.heap.size<=j:=hj;omega),(ad.since ab).base (λ j hj _=>by show w.heap.size<=j;have:w1.heap.size<=j:=hj;omega)⟩,As (a3.trans (a4.mono (by omega))) (by omega) _ _ _ _ _ _ _ _⟩
 clear hP a6 ad a7;go_wp2_with fail;exact bodyPost_ret (by simp[results,results168,go_sem,aj,r0,r1,r2,r3,r4,r5,r6,r7]) rfl a5
theorem Aj0{o n:Nat}{t:AQ}{args:List Px.Ex}{c:Ck.Cx}{B:AS}{row:AR}(hc:CkAt w b mb c)(ag:CxOk c)(hr:SlRow B w 8 sl args.length row)(ha:Ai B w args row)(hE:∀x∈args,EOk x)(ad:Ck.bkind t≠0) :
  AA 168 #[pt b 0,.agg (exA 7 o n t sl p)] w λ e w'=>Af w (Ck.builtin t p (Ck.cEs c args)) e w':=by
 obtain⟨k,Hk⟩:∃k:Nat,Hid (7=k):=⟨_,rfl⟩;have s1:((k:Int) == 1)=false:=by rw[<-Hk.out];rfl
 have s2:((k:Int) == 2)=false:=by rw[<-Hk.out];rfl
 have s3:((k:Int) == 3)=false:=by rw[<-Hk.out];rfl
 have s6:((k:Int) == 6)=false:=by rw[<-Hk.out];rfl
 have s7:((k:Int) == 7)=true:=by rw[<-Hk.out];rfl
 rw[Hk.out];obtain⟨w0,w1,aj,ah,l0,l1,a3,al,ak⟩:=A0 w (iv k) (iv o) (iv n) (strV t) (iv 0) sE sl (iv p);have af:=hc.keep a3;have aa:=hr.since (Since.of_below a3);have a8:=ha.since (Since.of_below a3);have am:(Ck.bkind t != 0)=true:=by simpa using ad
 have hC:=S1 (k:=k) (o:=o) (n:=n) (t:=t) (p:=p) hE ad af ag aa a8
 try rw[Hk.out] at hC
 obtain⟨ao,cap,rfl,-,-⟩:=hr.val;obtain⟨d0,d1,d2,d3,d4,d5,d6,d7,-⟩:=Ac al;obtain⟨C,HC⟩:∃C,Hid ((Ck.builtin t p (Ck.cEs c args))=C):=⟨_,rfl⟩;rw[HC.out] at hC ⊢;clear hc hr ha aa a8 af HC Hk;go_enter func168,ntmps168;go_wp2_with fail;refine (Gk t w1).mono ?_;rintro e w2 ⟨rfl,a9⟩;obtain rfl:=a9.symm;rw[am];clear a9;go_wp2_with fail;refine hC.mono ?_;rintro e w2 hP;clear hC aj ah;rcases C with⟨k2,o2,n2,t2,s2,y2,a0⟩ | ⟨a,er⟩
 rotate_left
 .obtain⟨hm,a4⟩:=hP;obtain rfl:=hm;exact⟨rfl,rfl,a3.trans (a4.mono (by omega))⟩
 obtain⟨sl2,row2,rfl,a6,ae,a4⟩:=hP.inl;obtain⟨a2,c2,rfl,-,-⟩:=a6.val;have ar:=a4.size;have a7:=(a4.block _ l1).trans ak;obtain⟨r0,r1,r2,r3,r4,r5,r6,r7,t0,t1,aq,t3,au,t5,t6,t7⟩:=Ac a7;have ai:w0<w2.heap.size:=(AB a7).1;have a5:Af w (.inl (.mk k2 o2 n2 t2 s2 y2 a0)) (.returned (.agg #[iv k2,iv o2,iv n2,strV t2,iv s2,strV y2,.slice a2 a0.length c2,iv 0])) (setc8 w2 w0 (iv k2) (iv o2) (iv n2) (strV t2) (iv s2) (strV y2) (.slice a2 a0.length c2) (iv 0)):=by
  have ab:Since (From w1) w2 (setc8 w2 w0 (iv k2) (iv o2) (iv n2) (strV t2) (iv s2) (strV y2) (.slice a2 a0.length c2) (iv 0)):=⟨by rw[A4];exact AD _,λ j h3 h4=>A3 (by have:w1.heap.size<=j:=h3;omega) _ _ _ _ _ _ _ _⟩;exact⟨⟨_,_,rfl,(a6.since ab).base' (λ j hj _=>by show w.heap.size<=j;have:w1.heap.size<=j:=hj;omega),(ae.since ab).base (λ j hj _=>by show w.heap.size<=j;have:w1.heap.size<=j:=hj;omega)⟩,As (a3.trans (a4.mono (by omega))) (by omega) _ _ _ _ _ _ _ _⟩
 clear hP a6 ae a7;go_wp2_with fail;exact bodyPost_ret (by simp[results,results168,go_sem,ai,r0,r1,r2,r3,r4,r5,r6,r7]) rfl a5
theorem Aj1{x y:Px.Ex}{o n:Nat}{t:AQ}{c:Ck.Cx}{B:AS}{row:AR}(hc:CkAt w b mb c)(ae:CxOk c)(hr:SlRow B w 8 sl 2 row)(ha:Ai B w [x,y] row)(hE:EOk x)(af:EOk y) :
  AA 168 #[pt b 0,.agg (exA 12 o n t sl p)] w λ e w'=>Af w (Ck.at_ p (Ck.cEs c [x,y])) e w':=by
 obtain⟨k,Hk⟩:∃k:Nat,Hid (12=k):=⟨_,rfl⟩;have s1:((k:Int) == 1)=false:=by rw[<-Hk.out];rfl
 have s2:((k:Int) == 2)=false:=by rw[<-Hk.out];rfl
 have s3:((k:Int) == 3)=false:=by rw[<-Hk.out];rfl
 have s6:((k:Int) == 6)=false:=by rw[<-Hk.out];rfl
 have s7:((k:Int) == 7)=false:=by rw[<-Hk.out];rfl
 have aq:((k:Int) == 12)=true:=by rw[<-Hk.out];rfl
 rw[Hk.out];obtain⟨w0,w1,ai,ag,l0,l1,a3,ak,aj⟩:=A0 w (iv k) (iv o) (iv n) (strV t) (iv 0) sE sl (iv p);have ad:=hc.keep a3;have a9:=hr.since (Since.of_below a3);have a8:=ha.since (Since.of_below a3);have hC:=Ax7 (o:=o) (n:=n) (t:=t) (p:=p) hE af ad ae a9 a8
 try rw[Hk.out] at hC
 obtain⟨ao,cap,rfl,-,-⟩:=hr.val;obtain⟨d0,d1,d2,d3,d4,d5,d6,d7,-⟩:=Ac ak;obtain⟨C,HC⟩:∃C,Hid ((Ck.at_ p (Ck.cEs c [x,y]))=C):=⟨_,rfl⟩;rw[HC.out] at hC ⊢;clear hc hr ha a9 a8 ad HC Hk;go_enter func168,ntmps168;go_wp2_with fail;refine hC.mono ?_;rintro e w2 hP;clear hC ai ag;rcases C with⟨k2,o2,n2,t2,s2,y2,a0⟩ | ⟨a,er⟩
 rotate_left
 .obtain⟨hm,a4⟩:=hP;obtain rfl:=hm;exact⟨rfl,rfl,a3.trans (a4.mono (by omega))⟩
 obtain⟨sl2,row2,rfl,a6,ab,a4⟩:=hP.inl;obtain⟨a2,c2,rfl,-,-⟩:=a6.val;have am:=a4.size;have a7:=(a4.block _ l1).trans aj;obtain⟨r0,r1,r2,r3,r4,r5,r6,r7,t0,t1,al,t3,ar,t5,t6,t7⟩:=Ac a7;have ah:w0<w2.heap.size:=(AB a7).1;have a5:Af w (.inl (.mk k2 o2 n2 t2 s2 y2 a0)) (.returned (.agg #[iv k2,iv o2,iv n2,strV t2,iv s2,strV y2,.slice a2 a0.length c2,iv 0])) (setc8 w2 w0 (iv k2) (iv o2) (iv n2) (strV t2) (iv s2) (strV y2) (.slice a2 a0.length c2) (iv 0)):=by
  have aa:Since (From w1) w2 (setc8 w2 w0 (iv k2) (iv o2) (iv n2) (strV t2) (iv s2) (strV y2) (.slice a2 a0.length c2) (iv 0)):=⟨by rw[A4];exact AD _,λ j h3 h4=>A3 (by have:w1.heap.size<=j:=h3;omega) _ _ _ _ _ _ _ _⟩;exact⟨⟨_,_,rfl,(a6.since aa).base' (λ j hj _=>by show w.heap.size<=j;have:w1.heap.size<=j:=hj;omega),(ab.since aa).base (λ j hj _=>by show w.heap.size<=j;have:w1.heap.size<=j:=hj;omega)⟩,As (a3.trans (a4.mono (by omega))) (by omega) _ _ _ _ _ _ _ _⟩
 clear hP a6 ab a7;go_wp2_with fail;exact bodyPost_ret (by simp[results,results168,go_sem,ah,r0,r1,r2,r3,r4,r5,r6,r7]) rfl a5
theorem Aj2{x:Px.Ex}{o n:Nat}{t:AQ}{c:Ck.Cx}{B:AS}{row:AR}(hc:CkAt w b mb c)(ae:CxOk c)(hr:SlRow B w 8 sl 1 row)(ha:Ai B w [x] row)(hE:EOk x) :
  AA 168 #[pt b 0,.agg (exA 13 o n t sl p)] w λ e w'=>Af w (Ck.unary 13 Ck.tInt (Ck.cEs c [x])) e w':=by
 obtain⟨k,Hk⟩:∃k:Nat,Hid (13=k):=⟨_,rfl⟩;have s1:((k:Int) == 1)=false:=by rw[<-Hk.out];rfl
 have s2:((k:Int) == 2)=false:=by rw[<-Hk.out];rfl
 have s3:((k:Int) == 3)=false:=by rw[<-Hk.out];rfl
 have s6:((k:Int) == 6)=false:=by rw[<-Hk.out];rfl
 have s7:((k:Int) == 7)=false:=by rw[<-Hk.out];rfl
 have aq:((k:Int) == 12)=false:=by rw[<-Hk.out];rfl
 have am:((k:Int) == 13)=true:=by rw[<-Hk.out];rfl
 rw[Hk.out];obtain⟨w0,w1,ah,af,l0,l1,a3,aj,ai⟩:=A0 w (iv k) (iv o) (iv n) (strV t) (iv 0) sE sl (iv p);have ad:=hc.keep a3;have a9:=hr.since (Since.of_below a3);have a8:=ha.since (Since.of_below a3);have hC:=On (k:=k) (o:=o) (n:=n) (t:=t) (p:=p) hE ad ae a9 a8 Ck.tInt
 try rw[Hk.out] at hC
 obtain⟨ao,cap,rfl,-,-⟩:=hr.val;obtain⟨d0,d1,d2,d3,d4,d5,d6,d7,-⟩:=Ac aj;obtain⟨C,HC⟩:∃C,Hid ((Ck.unary k Ck.tInt (Ck.cEs c [x]))=C):=⟨_,rfl⟩;rw[HC.out] at hC ⊢;clear hc hr ha a9 a8 ad HC Hk;go_enter func168,ntmps168;go_wp2_with fail;refine hC.mono ?_;rintro e w2 hP;clear hC ah af;rcases C with⟨k2,o2,n2,t2,s2,y2,a0⟩ | ⟨a,er⟩
 rotate_left
 .obtain⟨hm,a4⟩:=hP;obtain rfl:=hm;exact⟨rfl,rfl,a3.trans (a4.mono (by omega))⟩
 obtain⟨sl2,row2,rfl,a6,ab,a4⟩:=hP.inl;obtain⟨a2,c2,rfl,-,-⟩:=a6.val;have al:=a4.size;have a7:=(a4.block _ l1).trans ai;obtain⟨r0,r1,r2,r3,r4,r5,r6,r7,t0,t1,ak,t3,ar,t5,t6,t7⟩:=Ac a7;have ag:w0<w2.heap.size:=(AB a7).1;have a5:Af w (.inl (.mk k2 o2 n2 t2 s2 y2 a0)) (.returned (.agg #[iv k2,iv o2,iv n2,strV t2,iv s2,strV y2,.slice a2 a0.length c2,iv 0])) (setc8 w2 w0 (iv k2) (iv o2) (iv n2) (strV t2) (iv s2) (strV y2) (.slice a2 a0.length c2) (iv 0)):=by
  have aa:Since (From w1) w2 (setc8 w2 w0 (iv k2) (iv o2) (iv n2) (strV t2) (iv s2) (strV y2) (.slice a2 a0.length c2) (iv 0)):=⟨by rw[A4];exact AD _,λ j h3 h4=>A3 (by have:w1.heap.size<=j:=h3;omega) _ _ _ _ _ _ _ _⟩;exact⟨⟨_,_,rfl,(a6.since aa).base' (λ j hj _=>by show w.heap.size<=j;have:w1.heap.size<=j:=hj;omega),(ab.since aa).base (λ j hj _=>by show w.heap.size<=j;have:w1.heap.size<=j:=hj;omega)⟩,As (a3.trans (a4.mono (by omega))) (by omega) _ _ _ _ _ _ _ _⟩
 clear hP a6 ab a7;go_wp2_with fail;exact bodyPost_ret (by simp[results,results168,go_sem,ag,r0,r1,r2,r3,r4,r5,r6,r7]) rfl a5
theorem Aj3{x:Px.Ex}{o n:Nat}{t:AQ}{c:Ck.Cx}{B:AS}{row:AR}(hc:CkAt w b mb c)(ae:CxOk c)(hr:SlRow B w 8 sl 1 row)(ha:Ai B w [x] row)(hE:EOk x) :
  AA 168 #[pt b 0,.agg (exA 14 o n t sl p)] w λ e w'=>Af w (Ck.unary 14 Ck.tBool (Ck.cEs c [x])) e w':=by
 obtain⟨k,Hk⟩:∃k:Nat,Hid (14=k):=⟨_,rfl⟩;have s1:((k:Int) == 1)=false:=by rw[<-Hk.out];rfl
 have s2:((k:Int) == 2)=false:=by rw[<-Hk.out];rfl
 have s3:((k:Int) == 3)=false:=by rw[<-Hk.out];rfl
 have s6:((k:Int) == 6)=false:=by rw[<-Hk.out];rfl
 have s7:((k:Int) == 7)=false:=by rw[<-Hk.out];rfl
 have ar:((k:Int) == 12)=false:=by rw[<-Hk.out];rfl
 have aq:((k:Int) == 13)=false:=by rw[<-Hk.out];rfl
 have am:((k:Int) == 14)=true:=by rw[<-Hk.out];rfl
 rw[Hk.out];obtain⟨w0,w1,ah,af,l0,l1,a3,aj,ai⟩:=A0 w (iv k) (iv o) (iv n) (strV t) (iv 0) sE sl (iv p);have ad:=hc.keep a3;have a9:=hr.since (Since.of_below a3);have a8:=ha.since (Since.of_below a3);have hC:=On (k:=k) (o:=o) (n:=n) (t:=t) (p:=p) hE ad ae a9 a8 Ck.tBool
 try rw[Hk.out] at hC
 obtain⟨ao,cap,rfl,-,-⟩:=hr.val;obtain⟨d0,d1,d2,d3,d4,d5,d6,d7,-⟩:=Ac aj;obtain⟨C,HC⟩:∃C,Hid ((Ck.unary k Ck.tBool (Ck.cEs c [x]))=C):=⟨_,rfl⟩;rw[HC.out] at hC ⊢;clear hc hr ha a9 a8 ad HC Hk;go_enter func168,ntmps168;go_wp2_with fail;refine hC.mono ?_;rintro e w2 hP;clear hC ah af;rcases C with⟨k2,o2,n2,t2,s2,y2,a0⟩ | ⟨a,er⟩
 rotate_left
 .obtain⟨hm,a4⟩:=hP;obtain rfl:=hm;exact⟨rfl,rfl,a3.trans (a4.mono (by omega))⟩
 obtain⟨sl2,row2,rfl,a6,ab,a4⟩:=hP.inl;obtain⟨a2,c2,rfl,-,-⟩:=a6.val;have al:=a4.size;have a7:=(a4.block _ l1).trans ai;obtain⟨r0,r1,r2,r3,r4,r5,r6,r7,t0,t1,ak,t3,au,t5,t6,t7⟩:=Ac a7;have ag:w0<w2.heap.size:=(AB a7).1;have a5:Af w (.inl (.mk k2 o2 n2 t2 s2 y2 a0)) (.returned (.agg #[iv k2,iv o2,iv n2,strV t2,iv s2,strV y2,.slice a2 a0.length c2,iv 0])) (setc8 w2 w0 (iv k2) (iv o2) (iv n2) (strV t2) (iv s2) (strV y2) (.slice a2 a0.length c2) (iv 0)):=by
  have aa:Since (From w1) w2 (setc8 w2 w0 (iv k2) (iv o2) (iv n2) (strV t2) (iv s2) (strV y2) (.slice a2 a0.length c2) (iv 0)):=⟨by rw[A4];exact AD _,λ j h3 h4=>A3 (by have:w1.heap.size<=j:=h3;omega) _ _ _ _ _ _ _ _⟩;exact⟨⟨_,_,rfl,(a6.since aa).base' (λ j hj _=>by show w.heap.size<=j;have:w1.heap.size<=j:=hj;omega),(ab.since aa).base (λ j hj _=>by show w.heap.size<=j;have:w1.heap.size<=j:=hj;omega)⟩,As (a3.trans (a4.mono (by omega))) (by omega) _ _ _ _ _ _ _ _⟩
 clear hP a6 ab a7;go_wp2_with fail;exact bodyPost_ret (by simp[results,results168,go_sem,ag,r0,r1,r2,r3,r4,r5,r6,r7]) rfl a5
theorem Y1{x y:Px.Ex}{o n:Nat}{t:AQ}{c:Ck.Cx}{B:AS}{row:AR}(hc:CkAt w b mb c)(ae:CxOk c)(hr:SlRow B w 8 sl 2 row)(ha:Ai B w [x,y] row)(hE:EOk x)(af:EOk y) :
  AA 168 #[pt b 0,.agg (exA 15 o n t sl p)] w λ e w'=>Af w (Ck.binary 15 o p (Ck.cEs c [x,y])) e w':=by
 obtain⟨k,Hk⟩:∃k:Nat,Hid (15=k):=⟨_,rfl⟩;have s1:((k:Int) == 1)=false:=by rw[<-Hk.out];rfl
 have s2:((k:Int) == 2)=false:=by rw[<-Hk.out];rfl
 have s3:((k:Int) == 3)=false:=by rw[<-Hk.out];rfl
 have s6:((k:Int) == 6)=false:=by rw[<-Hk.out];rfl
 have s7:((k:Int) == 7)=false:=by rw[<-Hk.out];rfl
 have au:((k:Int) == 12)=false:=by rw[<-Hk.out];rfl
 have ar:((k:Int) == 13)=false:=by rw[<-Hk.out];rfl
 have aq:((k:Int) == 14)=false:=by rw[<-Hk.out];rfl
 rw[Hk.out];obtain⟨w0,w1,ai,ag,l0,l1,a3,ak,aj⟩:=A0 w (iv k) (iv o) (iv n) (strV t) (iv 0) sE sl (iv p);have ad:=hc.keep a3;have a9:=hr.since (Since.of_below a3);have a8:=ha.since (Since.of_below a3);have hC:=Sv (k:=k) (o:=o) (n:=n) (t:=t) (p:=p) hE af ad ae a9 a8
 try rw[Hk.out] at hC
 obtain⟨ao,cap,rfl,-,-⟩:=hr.val;obtain⟨d0,d1,d2,d3,d4,d5,d6,d7,-⟩:=Ac ak;obtain⟨C,HC⟩:∃C,Hid ((Ck.binary k o p (Ck.cEs c [x,y]))=C):=⟨_,rfl⟩;rw[HC.out] at hC ⊢;clear hc hr ha a9 a8 ad HC Hk;go_enter func168,ntmps168;go_wp2_with fail;refine hC.mono ?_;rintro e w2 hP;clear hC ai ag;rcases C with⟨k2,o2,n2,t2,s2,y2,a0⟩ | ⟨a,er⟩
 rotate_left
 .obtain⟨hm,a4⟩:=hP;obtain rfl:=hm;exact⟨rfl,rfl,a3.trans (a4.mono (by omega))⟩
 obtain⟨sl2,row2,rfl,a6,ab,a4⟩:=hP.inl;obtain⟨a2,c2,rfl,-,-⟩:=a6.val;have am:=a4.size;have a7:=(a4.block _ l1).trans aj;obtain⟨r0,r1,r2,r3,r4,r5,r6,r7,t0,t1,al,t3,av,t5,t6,t7⟩:=Ac a7;have ah:w0<w2.heap.size:=(AB a7).1;have a5:Af w (.inl (.mk k2 o2 n2 t2 s2 y2 a0)) (.returned (.agg #[iv k2,iv o2,iv n2,strV t2,iv s2,strV y2,.slice a2 a0.length c2,iv 0])) (setc8 w2 w0 (iv k2) (iv o2) (iv n2) (strV t2) (iv s2) (strV y2) (.slice a2 a0.length c2) (iv 0)):=by
  have aa:Since (From w1) w2 (setc8 w2 w0 (iv k2) (iv o2) (iv n2) (strV t2) (iv s2) (strV y2) (.slice a2 a0.length c2) (iv 0)):=⟨by rw[A4];exact AD _,λ j h3 h4=>A3 (by have:w1.heap.size<=j:=h3;omega) _ _ _ _ _ _ _ _⟩;exact⟨⟨_,_,rfl,(a6.since aa).base' (λ j hj _=>by show w.heap.size<=j;have:w1.heap.size<=j:=hj;omega),(ab.since aa).base (λ j hj _=>by show w.heap.size<=j;have:w1.heap.size<=j:=hj;omega)⟩,As (a3.trans (a4.mono (by omega))) (by omega) _ _ _ _ _ _ _ _⟩
 clear hP a6 ab a7;go_wp2_with fail;exact bodyPost_ret (by simp[results,results168,go_sem,ah,r0,r1,r2,r3,r4,r5,r6,r7]) rfl a5
theorem Y2{o n:Nat}{t:AQ}{args:List Px.Ex}{c:Ck.Cx}{B:AS}{row:AR}(hc:CkAt w b mb c)(ad:CxOk c)(hr:SlRow B w 8 sl args.length row)(ha:Ai B w args row) :
  AA 168 #[pt b 0,.agg (exA 1 o n t sl p)] w λ e w'=>Af w (.inl (.mk 1 0 n [] 0 Ck.tInt [])) e w':=by
 obtain⟨k,Hk⟩:∃k:Nat,Hid (1=k):=⟨_,rfl⟩;have s1:((k:Int) == 1)=true:=by rw[<-Hk.out];rfl
 rw[Hk.out];obtain⟨w0,w1,ab,a9,l0,l1,a3,a6,a5⟩:=A0 w (iv k) (iv o) (iv n) (strV t) (iv 0) sE sl (iv p);have a8:=hc.keep a3;have a7:=hr.since (Since.of_below a3);have a4:=ha.since (Since.of_below a3);obtain⟨ao,cap,rfl,-,-⟩:=hr.val;obtain⟨d0,d1,d2,d3,d4,d5,d6,d7,-⟩:=Ac a6;obtain⟨r0,r1,r2,r3,r4,r5,r6,r7,t0,t1,aa,t3,ae,t5,t6,t7⟩:=Ac a5;have a0:Af w (.inl (.mk k 0 n [] 0 Ck.tInt [])) (.returned (.agg #[iv k,iv 0,iv n,sE,iv 0,.string ⟨#[105,110,116]⟩,sZ,iv 0])) (setc8 w1 w0 (iv k) (iv 0) (iv n) sE (iv 0) (.string ⟨#[105,110,116]⟩) sZ (iv 0)):=⟨⟨_,_,rfl,SlRow.nil8,Ar.nil⟩,As a3 (by omega) _ _ _ _ _ _ _ _⟩;clear hc hr ha a7 a4 a8 Hk;go_enter func168,ntmps168;go_wp2_with fail;exact bodyPost_ret (by simp[results,results168,go_sem,l1,r0,r1,r2,r3,r4,r5,r6,r7]) rfl a0
theorem Vc{o n:Nat}{t:AQ}{args:List Px.Ex}{c:Ck.Cx}{B:AS}{row:AR}(hc:CkAt w b mb c)(ad:CxOk c)(hr:SlRow B w 8 sl args.length row)(ha:Ai B w args row) :
  AA 168 #[pt b 0,.agg (exA 2 o n t sl p)] w λ e w'=>Af w (.inl (.mk 2 0 n [] 0 Ck.tBool [])) e w':=by
 obtain⟨k,Hk⟩:∃k:Nat,Hid (2=k):=⟨_,rfl⟩;have s1:((k:Int) == 1)=false:=by rw[<-Hk.out];rfl
 have s2:((k:Int) == 2)=true:=by rw[<-Hk.out];rfl
 rw[Hk.out];obtain⟨w0,w1,ab,a9,l0,l1,a3,a6,a5⟩:=A0 w (iv k) (iv o) (iv n) (strV t) (iv 0) sE sl (iv p);have a8:=hc.keep a3;have a7:=hr.since (Since.of_below a3);have a4:=ha.since (Since.of_below a3);obtain⟨ao,cap,rfl,-,-⟩:=hr.val;obtain⟨d0,d1,d2,d3,d4,d5,d6,d7,-⟩:=Ac a6;obtain⟨r0,r1,r2,r3,r4,r5,r6,r7,t0,t1,aa,t3,ae,t5,t6,t7⟩:=Ac a5;have a0:Af w (.inl (.mk k 0 n [] 0 Ck.tBool [])) (.returned (.agg #[iv k,iv 0,iv n,sE,iv 0,.string ⟨#[98,111,111,108]⟩,sZ,iv 0])) (setc8 w1 w0 (iv k) (iv 0) (iv n) sE (iv 0) (.string ⟨#[98,111,111,108]⟩) sZ (iv 0)):=⟨⟨_,_,rfl,SlRow.nil8,Ar.nil⟩,As a3 (by omega) _ _ _ _ _ _ _ _⟩;clear hc hr ha a7 a4 a8 Hk;go_enter func168,ntmps168;go_wp2_with fail;exact bodyPost_ret (by simp[results,results168,go_sem,l1,r0,r1,r2,r3,r4,r5,r6,r7]) rfl a0
theorem Vd{o n:Nat}{t:AQ}{args:List Px.Ex}{c:Ck.Cx}{B:AS}{row:AR}(hc:CkAt w b mb c)(al:CxOk c)(hr:SlRow B w 8 sl args.length row)(ha:Ai B w args row)(aj:t.length<=1000) :
  AA 168 #[pt b 0,.agg (exA 3 o n t sl p)] w λ e w'=>Af w (.inl (.mk 3 0 0 t 0 Ck.tText [])) e w':=by
 obtain⟨k,Hk⟩:∃k:Nat,Hid (3=k):=⟨_,rfl⟩;have s1:((k:Int) == 1)=false:=by rw[<-Hk.out];rfl
 have s2:((k:Int) == 2)=false:=by rw[<-Hk.out];rfl
 have s3:((k:Int) == 3)=true:=by rw[<-Hk.out];rfl
 rw[Hk.out];obtain⟨w0,w1,ak,ah,l0,l1,a4,ae,ad⟩:=A0 w (iv k) (iv o) (iv n) (strV t) (iv 0) sE sl (iv p);have ag:=hc.keep a4;have af:=hr.since (Since.of_below a4);have aa:=ha.since (Since.of_below a4);obtain⟨ao,cap,rfl,-,-⟩:=hr.val;obtain⟨d0,d1,d2,d3,d4,d5,d6,d7,-⟩:=Ac ae;have a9:=λ w'=>Vv.sclone_l t w' (by omega)
 clear hc hr ha af aa ag Hk;go_enter func168,ntmps168;go_wp2_with fail;refine Vv.wpE_begin (S:=λ w'=>w'.cell? w=iv k/\w'.cell? ⟨w,3,none⟩=strV t) (N:=λ j=>decide (j<6)) (by kernel_rfl) ?_;have a5:w1.drew.cell? w=iv k/\w1.drew.cell? ⟨w,3,none⟩=strV t:=⟨d0,d3⟩;refine Aa 23 [6] 0 (pt w 0) a5 ?_;refine Aa 24 [6] 1 (iv k) a5 ?_;refine Aa 25 [6] 2 (pt w 3) a5 ?_;refine Aa 26 [6] 3 (strV t) a5 ?_;refine Ah 4 λ K hK=>?_
 go_simp;refine (a9 _).mono ?_;rintro e w2 ⟨rfl,a0⟩;have a6:Below w1 w1 w2:=⟨a0.os,a0.tape,a0.output,a0.size,a0.block⟩;have a8:w2.cell? w=iv k/\w2.cell? ⟨w,3,none⟩=strV t:=⟨((bcell a6).1 _ _ (by omega)).trans d0,((bcell a6).1 _ _ (by omega)).trans d3⟩;refine hK _ _ (λ _=>a8) ?_;clear hK K a9
 try simp only[aP]
 refine Ah 5 λ K hK=>?_
 go_simp;refine hK _ _ (λ _=>a8) ?_;clear hK K
 try simp only[aP]
 have a7:=(a6.block _ l1).trans ad;obtain⟨r0,r1,r2,r3,r4,r5,r6,r7,t0,t1,ai,t3,am,t5,t6,t7⟩:=Ac a7;have ab:w0<w2.heap.size:=(AB a7).1;have a3:Af w (.inl (.mk k 0 0 t 0 Ck.tText [])) (.returned (.agg #[iv k,iv 0,iv 0,strV t,iv 0,.string ⟨#[116,101,120,116]⟩,sZ,iv 0])) (setc8 w2 w0 (iv k) (iv 0) (iv 0) (strV t) (iv 0) (.string ⟨#[116,101,120,116]⟩) sZ (iv 0)):=⟨⟨_,_,rfl,SlRow.nil8,Ar.nil⟩,As (a4.trans (a6.mono (by omega))) (by omega) _ _ _ _ _ _ _ _⟩;refine Ah 6 λ K hK=>?_
 go_simp;refine hK _ _ (λ h=>by cases h) ?_;clear hK K
 try simp only[aP]
 refine Vv.wpE_done (by kernel_rfl) ?_;clear a7;simp only[Exit.inBlock,Exit.then];refine ‹∀(a:Act) (w:World),_->_› _ _ ?_;go_wp2_with fail;exact bodyPost_ret (by simp[results,results168,go_sem,ab,r0,r1,r2,r3,r4,r5,r6,r7]) rfl a3
mutual
def ShE:Px.Ex->Prop
 | .mk k o n t args p=>(k=1\/k=2\/(k=3/\t.length<=1000)\/k=6\/(k=7/\args.length<=1000000)\/(k=12/\args.length=2)\/(k=13/\args.length=1)\/(k=14/\args.length=1)\/(k=15/\args.length=2))/\Mc args
def Mc:List Px.Ex->Prop
 | []=>True
 | x :: r=>ShE x/\Mc r
end
theorem Ve{α:Type}{l:List α}(h:l.length=2):∃x y,l=[x,y]:=by
 match l,h with
 | [x,y],_=>exact⟨x,y,rfl⟩
mutual
theorem expr_ok:∀(x:Px.Ex),ShE x->EOk x
 | .mk k o n t args p,h=>by
  rw[ShE] at h;obtain⟨hk,ha⟩:=h;have hA:∀x∈args,EOk x:=Cy args ha;intro k' o' n' t' args' p' e w b mb c B sl row hc hok hr hall;simp only[Px.Ex.mk.injEq] at e;obtain⟨rfl,rfl,rfl,rfl,rfl,rfl⟩:=e;rw[Ck.cE];unfold Ck.comb;rcases hk with rfl | rfl | ⟨rfl,h3⟩ | rfl | ⟨rfl,h7⟩ | ⟨rfl,h2⟩ | ⟨rfl,h1⟩ | ⟨rfl,h1⟩ | ⟨rfl,h2⟩
  .exact Y2 hc hok hr hall
  .exact Vc hc hok hr hall
  .exact Vd hc hok hr hall h3
  .exact Va hc hok hr hall
  .simp only[Nat.reduceEqDiff,if_false,if_true];by_cases hb:Ck.bkind t=0
   .rw[if_pos hb];exact Vb hc hok hr hall hA h7 hb
   .rw[if_neg hb];exact Aj0 hc hok hr hall hA hb
  .obtain⟨x,y,rfl⟩:=Ve h2;exact Aj1 hc hok hr hall (hA x (by simp)) (hA y (by simp))
  .obtain⟨x,rfl⟩:=length_eq_one_iff.1 h1;exact Aj2 hc hok hr hall (hA x (by simp))
  .obtain⟨x,rfl⟩:=length_eq_one_iff.1 h1;exact Aj3 hc hok hr hall (hA x (by simp))
  .obtain⟨x,y,rfl⟩:=Ve h2;exact Y1 hc hok hr hall (hA x (by simp)) (hA y (by simp))
theorem Cy:∀(l:List Px.Ex),Mc l->∀x∈l,EOk x
 | [],_=>λ x hx=>by cases hx
 | y :: r,h=>by
  rw[Mc] at h;have h1:=expr_ok y h.1;have h2:=Cy r h.2;intro x hx;rcases mem_cons.1 hx with rfl | hx
  .exact h1
  .exact h2 x hx
end
structure Fm(X:AS)(w w':World):Prop where
 os:w'.os=w.os
 tape:w'.tape=w.tape
 output:w'.output=w.output
 size:w<=w'.heap.size
 block:∀j,j<w.heap.size->¬X j->w'.heap[j]?=w.heap[j]?
theorem Fm.refl(X:AS)(w:World):Fm X w w:=⟨rfl,rfl,rfl,AD _,λ _ _ _=>rfl⟩
theorem Fm.of_below{X:AS}(h:Below w w w'):Fm X w w':=⟨h.os,h.tape,h.output,h.size,λ j h1 _=>h.block j h1⟩
abbrev BD:=@Fm.of_below
theorem Fm.trans{X Y Z:AS}(h:Fm X w w1)(k:Fm Y w1 w2)(hX:∀j,j<w.heap.size->X j->Z j)(hY:∀j,j<w.heap.size->Y j->Z j):Fm Z w w2:=⟨k.os.trans h.os,k.tape.trans h.tape,k.output.trans h.output,AP h.size k.size,λ j h1 h2=>(k.block j (AL h1 h.size) (λ e=>h2 (hY j h1 e))).trans (h.block j h1 (λ e=>h2 (hX j h1 e)))⟩
theorem Fm.mono{X Z:AS}(h:Fm X w w')(hX:∀j,j<w.heap.size->X j->Z j):Fm Z w w':=⟨h.os,h.tape,h.output,h.size,λ j h1 h2=>h.block j h1 (λ e=>h2 (hX j h1 e))⟩
theorem Fm.since{X B:AS}(h:Fm X w w')(hX:∀j,B j->¬X j):Since B w w':=⟨h.size,λ j h1 h2=>h.block j h2 (hX j h1)⟩
theorem Fm.below{X:AS}(h:Fm X w w'){n:Nat}(hn:n<=w)(hX:∀j,X j->n<=j):Below n w w':=⟨h.os,h.tape,h.output,h.size,λ j hj=>h.block j (by omega) (λ e=>by have:=hX j e;omega)⟩
theorem Fm.set{X:AS}(hg:X g)(o:Nat)(v:Value):Fm X w (w.setCell ⟨g,o,none⟩ v):=⟨rfl,rfl,rfl,by simp[World.setCell],λ j _ h=>AG _ _ _ _ (by show j≠g;rintro rfl;exact h hg)⟩
theorem Fm.setB{X:AS}{w:World}{g:Nat}(hg:X g)(o:Obj):Fm X w (setB w g o):=⟨rfl,rfl,rfl,by rw[Yt];exact AD _,λ j _ h=>Uz (by rintro rfl;exact h hg)⟩
theorem Fm.grown{X:AS}(h:w.grownBy w' v.ownBlock)(hX:∀j,v.ownBlock=some j->X j):Fm X w w':=⟨h.os,h.tape,h.output,h.size,λ j h1 h2=>h.block j h1 (λ e=>h2 (hX j e.symm))⟩
def Strs(n0:Nat)(w:World)(v:Value)(l:List (List UInt8)):Prop:=w.ownsRow n0 9 1 v l.length (l.map strV)
theorem Ap9:(prog.info? 9).map (λ i=>(i.zero,i.size,i.bytes))=some (some sE,1,16):=by kernel_rfl
theorem Strs.nil(n0:Nat)(w:World):Strs n0 w sZ []:=⟨rfl,AI ⟨rfl,rfl⟩⟩
theorem Strs.slice{l:List (List UInt8)}(h:Strs n0 w v l):∃ao cap,v=.slice ao l.length cap/\l.length<=cap/\cap<=9223372036854775807:=by
 rcases h.2 with⟨e,h0⟩ | ⟨g,cap,cur,e,h4,h5,h6,h7,_⟩
 .exact⟨none,0,by rw[e,h0],by omega,by omega⟩
 .exact⟨_,cap,e,h6,by unfold maxLen at h7;omega⟩
theorem Strs.since{l:List (List UInt8)}(h:Strs n0 w v l)(e:∀j,v.ownBlock=some j->w'.heap[j]?=w.heap[j]?):Strs n0 w' v l:=by
 refine⟨h.1,?_⟩;rcases h.2 with h3 | ⟨g,cap,cur,h3,h4,h5,h6⟩
 .exact AI h3
 .exact AJ ⟨g,cap,cur,h3,h4,by rw[e g (by rw[h3];rfl)];exact h5,h6⟩
theorem Strs.lt{l:List (List UInt8)}(h:Strs n0 w v l)(e:v.ownBlock=some j):n0<=j/\j<w.heap.size:=World.ownsRow.lt h j e
theorem Strs.get{l:List (List UInt8)}(h:Strs n0 w v l)(hi:l[i]?=x):∃g cap,v=sL g 0 l.length cap/\g<w.heap.size/\w.cell? ⟨g,i,none⟩=strV x:=by
 have a3:=(AK hi).1;rcases h.2 with⟨e,h0⟩ | ⟨g,cap,cur,h3,h4,h5,h6,h7,h8,h9⟩
 .omega
 .refine⟨g,cap,h3,(AB h5).1,?_⟩;rw[Be h5];have a0:(l.map strV)[i]?=strV x:=by rw[List.getElem?_map,hi];rfl
  rw[<-h9,List.getElem?_take] at a0;split at a0
  .simpa using a0
  .cases a0
theorem Strs.push{l:List (List UInt8)}(h:Strs n0 w v l){g0:Nat}(hb:w.heap[g0]?=some (.cells #[strV x] 9 (0,0)))(hn:n0<=w)(hl:l.length<=100000)(c:Nat)(ty:TypeId) :
  ∃g cap w',(Builtin.append_ #[33,33] ty #[v,sL g0 0 1 c]).run prog w=.ok (sL g 0 (l.length+1) cap) w'/\Strs n0 w' (sL g 0 (l.length+1) cap) (l ++ [x])/\w.grownBy w' v.ownBlock/\(v.ownBlock=some g\/w.heap.size<=g):=by
 obtain⟨i,hi,hz,hs,a3⟩:=Fd Ap9;obtain⟨g,cap,w',hr,ho,hg,a0,a5⟩:=run_append_lies (P:=prog) w 33 ty n0 9 i _ 1 16 underlying33 hi hz hs a3 rfl (by decide) v l.length (l.map strV) h ⟨g0,0,none⟩ 1 c [strV x] rfl (λ j u hj=>by
  have a4:j=0:=by have:=(AK hj).1;simp at this;omega
  subst a4;simp only[List.getElem?_cons_zero,Option.some.injEq] at hj;subst hj;have:=Be hb 0;simpa [Addr.add] using this) (λ u hu=>by simp at hu;subst hu;rfl) (by omega) (by unfold maxLen;omega) (by omega) hn _ rfl
 refine⟨g,cap,w',hr,?_,hg,?_⟩
 .have:(l ++ [x]).length=l.length+1:=by simp
  unfold Strs;rw[this,map_append];exact ho
 .rcases a0 with h | h
  .exact AI h
  .exact AJ (by omega)
structure Sc(n0 b cb nb:Nat)(nv:Value)(names:List (List UInt8))(w:World):Prop where
 cbk:w.heap[cb]?=some (.cells #[pt b 0] 97 (0,0))
 nbk:w.heap[nb]?=some (.cells #[nv] 33 (0,0))
 own:Strs n0 w nv names
 cn:n0<=cb
 nn:n0<=nb
 ne:cb≠nb
 a1:nv.ownBlock≠cb
 a2:nv.ownBlock≠nb
theorem Sc.keep{cb nb:Nat}{nv:Value}{names:List (List UInt8)}(h:Sc n0 b cb nb nv names w)(e:∀j,(j=cb\/j=nb\/nv.ownBlock=some j)->w'.heap[j]?=w.heap[j]?):Sc n0 b cb nb nv names w':=
 ⟨(e cb (AI rfl)).trans h.cbk,(e nb (AJ (AI rfl))).trans h.nbk,h.own.since (λ j hj=>e j (AJ (AJ hj))),h.cn,h.nn,h.ne,h.a1,h.a2⟩
theorem Md{y:Value}(h:w.heap[g]?=some (.cells #[y] T (0,0))):w.cell? g=y/\w.frozen? g=false/\g<w:=⟨by simp[World.cell?,h],by simp[World.frozen?,h],(AB h).1⟩
theorem Dt(h:w.grownBy w' v.ownBlock)(h1:j<w.heap.size)(h2:v.ownBlock≠some j):w'.heap[j]?=w.heap[j]?:=h.block j h1 (λ e=>h2 e.symm)
theorem Bb4(a b c:Value)(w:World):(Instr.field 125 (.agg #[a,b,c]) 0).run prog w=.ok a w:=by kernel_rfl
def Me(n0 b mb cb nb:Nat)(nv:Value)(names:List (List UInt8))(x:AQ)(w:World)(r:Ck.R Ck.Env)(e:Ending)(w':World):Prop:=
 match r with
 | .inl env'=>e=.returned (.tuple #[])/\A9 w' mb env'/\(∃nv',Sc n0 b cb nb nv' (names ++ [x]) w'/\(∀j,nv'.ownBlock=some j->nv.ownBlock=some j\/w.heap.size<=j))/\Fm (λ j=>j=mb\/j=nb\/nv.ownBlock=some j) w w'
 | .inr (a,er)=>e=.panicked (Ag a er)/\Below w w w'
theorem Mf{cb nb num:Nat}{lv nv:Value}{names:List (List UInt8)}{env:Ck.Env}(ae:w.heap[b]?=some (.cells #[v0,ss,fs,.map (some mb),iv num,lv] 62 (0,0)))(he:A9 w mb env)(b5:D0 env)(hs:Sc n0 b cb nb nv names w)(hn:n0<=w)(bs:mb<n0)(bh:names.length<=100000)(x:AQ)(p:Nat)(m:Mng) :
  AA 112 #[strV x,iv p,Hu m,pt cb 0,pt nb 0] w λ e w'=>Me n0 b mb cb nb nv names x w (Ck.note env x p m) e w':=by
 obtain⟨w0,az⟩:∃w0,w.alloc (.cells #[iv m.kind,iv m.slot,strV m.type] 125)=w0:=⟨_,rfl⟩;have ak:Below w w w0:=by rw[<-az];exact (AF _ _).alloc (AD _) _
 have l0:w.heap.size<w0.heap.size:=by rw[<-az];simp
 have b8:w0.heap[w.heap.size]?=some (.cells #[iv m.kind,iv m.slot,strV m.type] 125 (0,0)):=by rw[<-az];exact heap_new _ _
 have bg:b<w:=(AB ae).1;have a8:=(ak.block _ bg).trans ae;obtain⟨c0,c1,c2,c3,c4,c5,-⟩:=Bc a8;have au:=he.since (ak.block _ he.lt);have bi:cb<w:=(AB hs.cbk).1;have b0:nb<w:=(AB hs.nbk).1;have ab:Sc n0 b cb nb nv names w0:=hs.keep (λ j hj=>ak.block j (by rcases hj with rfl | rfl | h;exact bi;exact b0;exact (hs.own.lt h).2));obtain⟨q0,q1,q2⟩:=Md ab.cbk;obtain⟨d0,d1,d2,-⟩:=Az b8;have bc:=Fv au x;have hB:=Gk x w0;have hf:=Bb4;obtain⟨na,nc,rfl,-,-⟩:=hs.own.slice;obtain⟨R,HR⟩:∃R,Hid (Ck.note env x p m=R):=⟨_,rfl⟩;rw[HR.out];have a7:Hid (R=Ck.bind (Ck.need (Ck.bkind x == 0 && (Ck.look env x).kind == 0) p 34) λ _=>.inl (env ++ [(x,m)])):=HR.out.symm;have am:Hid ((Ck.look env x).kind=0->fnd env x 0=none):=λ h=>fnd_none env x 0 b5 h
 generalize Ck.look env x=L at *;obtain⟨lk,bk,lt⟩:=L;simp only at a7 am;clear HR;have af:Hid (∀w',Below w0 w0 w'->Me n0 b mb cb nb (.slice na names.length nc) names x w (.inr (p,34)) (.panicked (Ag p 34)) w'):=λ w' hb'=>⟨rfl,ak.trans (hb'.mono (by omega))⟩
 by_cases hbk:Ck.bkind x=0
 rotate_left
 .have ai:(Ck.bkind x != 0)=true:=by simpa using hbk
  have al:(Ck.bkind x == 0)=false:=by simpa using hbk
  rw[ai] at hB;have a6:R=.inr (p,34):=by rw[a7.out,al];rfl
  have a0:=af.out w0 (AF _ _);rw[<-a6] at a0;clear ai al hbk a6 a7;go_enter func112,ntmps112;go_wp2_with fail;refine hB.mono ?_;rintro e w1 ⟨rfl,a4⟩;obtain rfl:=a4.symm;clear hB a4;go_wp2_with fail;refine (Ap p 34 _).mono ?_;rintro e w1 ⟨rfl,rfl⟩;exact⟨rfl,a0⟩
 have ai:(Ck.bkind x != 0)=false:=by rw[hbk];rfl
 have al:(Ck.bkind x == 0)=true:=by rw[hbk];rfl
 rw[ai] at hB;rw[al,Bool.true_and] at a7;clear ai al hbk;by_cases hlk0:lk=0
 rotate_left
 .have b6:((lk:Int) == 0)=false:=by rw[beq_eq_false_iff_ne];omega
  have b4:(lk == 0)=false:=by rw[beq_eq_false_iff_ne];exact hlk0
  have a6:R=.inr (p,34):=by rw[a7.out,b4];rfl
  have a0:=af.out w0 (AF _ _);rw[<-a6] at a0;clear b4 hlk0 a6 a7 am;go_enter func112,ntmps112;go_wp2_with fail;refine hB.mono ?_;rintro e w1 ⟨rfl,a4⟩;obtain rfl:=a4.symm;clear hB a4;go_wp2_with fail;refine (Ap p 34 _).mono ?_;rintro e w1 ⟨rfl,rfl⟩;exact⟨rfl,a0⟩
 have b6:((lk:Int) == 0)=true:=by simp[hlk0]
 have ba:=am.out hlk0;have a6:Hid (R=.inl (env ++ [(x,m)])):=by show _=_;rw[a7.out,hlk0];rfl
 clear hlk0 a7 am af;go_enter func112,ntmps112;go_wp2_with fail;refine hB.mono ?_;rintro e w1 ⟨rfl,a4⟩;obtain rfl:=a4.symm;clear hB a4;go_wp2_with fail;refine (Aw p 34 _).mono ?_;rintro e w1 ⟨rfl,a4⟩;obtain rfl:=a4.symm;clear a4 bc b6;go_wp2_with fail;refine Vv.wpE_begin (S:=λ w'=>w'.cell? cb=pt b 0/\w'.cell? ⟨b,3,none⟩=some (.map (some mb))/\w'.cell? w=iv m.kind/\w'.cell? ⟨w,1,none⟩=iv m.slot/\w'.cell? ⟨w,2,none⟩=strV m.type) (N:=λ j=>decide (j<6)) (by kernel_rfl) ?_;have ad:w0.drew.cell? cb=pt b 0/\w0.drew.cell? ⟨b,3,none⟩=some (.map (some mb))/\w0.drew.cell? w=iv m.kind/\w0.drew.cell? ⟨w,1,none⟩=iv m.slot/\w0.drew.cell? ⟨w,2,none⟩=strV m.type:=⟨q0,c3,d0,d1,d2⟩;refine Aa 23 [6] 0 (pt b 0) ad ?_;refine Aa 24 [6] 1 (pt b 0) ad ?_;refine Aa 25 [6] 2 (pt b 3) ad ?_;refine Aa 26 [6] 3 (.map (some mb)) ad ?_;refine Aa 27 [6] 4 (strV x) ad ?_;refine Aa 28 [6] 5 (Hu m) ad ?_;have hu:=U0 (w:=w0.drew) au x m ba;obtain⟨ob,b9,b3⟩:=hu;obtain⟨w1,ay⟩:∃w1,setB w0.drew mb ob=w1:=⟨_,rfl⟩;rw[ay] at b9 b3;refine Ah 6 λ K hK=>?_
 go_simp;refine hK _ _ (λ h=>by cases h) ?_;clear hK K
 try simp only[aP]
 refine Vv.wpE_done (by kernel_rfl) ?_;have aq:Fm (λ j=>j=mb) w0 w1:=by
  rw[<-ay];have h1:Fm (λ j=>j=mb) w0.drew (setB w0.drew mb ob):=Fm.setB (X:=λ j=>j=mb) (g:=mb) rfl ob;exact⟨h1.os,h1.tape,h1.output,h1.size,h1.block⟩
 have bn:=aq.size;have av:mb≠cb/\mb≠nb:=⟨by have:=ab.cn;omega,by have:=ab.nn;omega⟩;have ar:Sc n0 b cb nb (.slice na names.length nc) names w1:=ab.keep (λ j hj=>aq.block j (by rcases hj with rfl | rfl | h;omega;omega;exact (ab.own.lt h).2) (by rintro rfl;rcases hj with h | h | h;exact av.1 h;exact av.2 h;have:=(ab.own.lt h).1;omega));obtain⟨w2,ax⟩:∃w2,w1.alloc (.cells #[strV x] 9)=w2:=⟨_,rfl⟩;have aw:Below w1 w1 w2:=by rw[<-ax];exact (AF _ _).alloc (AD _) _
 have l2:w1.heap.size<w2.heap.size:=by rw[<-ax];simp
 have a5:w2.heap[w1.heap.size]?=some (.cells #[strV x] 9 (0,0)):=by rw[<-ax];exact heap_new _ _
 have a3:Sc n0 b cb nb (.slice na names.length nc) names w2:=ar.keep (λ j hj=>aw.block j (by rcases hj with rfl | rfl | h;omega;omega;exact (ar.own.lt h).2));obtain⟨g3,bb,w3,bf,b7,ah,ag⟩:=a3.own.push a5 (by omega) bh 1 33;obtain⟨w4,aj⟩:∃w4,w3.setCell nb (sL g3 0 (names.length+1) bb)=w4:=⟨_,rfl⟩;have a9:w3.heap[nb]?=some (.cells #[.slice na names.length nc] 33 (0,0)):=(Dt ah (by omega) a3.a2).trans a3.nbk;have aa:g3≠cb/\g3≠nb:=by
  rcases ag with h | h
  .exact⟨λ e=>a3.a1 (by rw[<-e];exact h),λ e=>a3.a2 (by rw[<-e];exact h)⟩
  .exact⟨by omega,by omega⟩
 have a0:Me n0 b mb cb nb (.slice na names.length nc) names x w R (.returned (.tuple #[])) w4:=by
  rw[a6.out];have bj:Fm (λ j=>j=mb\/j=nb\/(Value.slice na names.length nc).ownBlock=some j) w w4:=by
   have h1:Fm (λ j=>j=mb\/j=nb\/(Value.slice na names.length nc).ownBlock=some j) w w1:=(Fm.of_below (X:=λ _=>False) ak).trans aq (λ _ _ h=>h.elim) (λ j _ h=>AI h);have h2:Fm (λ j=>j=mb\/j=nb\/(Value.slice na names.length nc).ownBlock=some j) w w2:=h1.trans (Fm.of_below (X:=λ _=>False) aw) (λ _ _ h=>h) (λ _ _ h=>h.elim);have h3:Fm (λ j=>j=mb\/j=nb\/(Value.slice na names.length nc).ownBlock=some j) w w3:=h2.trans (Fm.grown (X:=λ j=>(Value.slice na names.length nc).ownBlock=some j) ah (λ j h=>h)) (λ _ _ h=>h) (λ _ _ h=>AJ (AJ h));rw[<-aj];exact h3.trans (Fm.set (X:=λ j=>j=nb) rfl 0 _) (λ _ _ h=>h) (λ _ _ h=>AJ (AI h))
  have bo:=ah.size;refine⟨rfl,?_,⟨sL g3 0 (names.length+1) bb,⟨?_,?_,?_,a3.cn,a3.nn,a3.ne,?_,?_⟩,λ j hj=>?_⟩,bj⟩
  .have bp:=he.lt;refine b3.since ?_;rw[<-aj,Below.heap_setCell _ _ _ _ (by show mb≠nb;exact av.2),Dt ah (by omega) (λ h=>by have:=(a3.own.lt h).1;omega),aw.block _ (by omega)]
  .rw[<-aj,Below.heap_setCell _ _ _ _ (by show cb≠nb;exact a3.ne),Dt ah (by omega) a3.a1];exact a3.cbk
  .rw[<-aj];simp[World.setCell,Array.getElem?_modify,a9]
  .refine b7.since (λ j hj=>?_);have:g3=j:=by simpa [Value.ownBlock] using hj
   rw[<-aj,Below.heap_setCell _ _ _ _ (by show j≠nb;rw[<-this];exact aa.2)]
  .simp[Value.ownBlock];exact aa.1
  .simp[Value.ownBlock];exact aa.2
  .have h5:g3=j:=by simpa [Value.ownBlock] using hj
   rcases ag with h | h
   .exact AI (by rw[<-h5];exact h)
   .exact AJ (by omega)
 obtain⟨m0,m1,m2⟩:=Md a3.nbk;obtain⟨bl,br,bq⟩:=Md ar.nbk;obtain⟨p0,p1,p2⟩:=Md a9;clear b7 ar a3 ab hs he au b3 aq ae a8 b8 a5 a9 ah ag a6 ad b5 ba ay b9;simp only[Exit.inBlock,Exit.then];refine ‹∀(a:Act) (w:World),_->_› _ _ ?_;go_wp2_with (at_builtin;refine Lib.wpList_append_run _ rfl _ _ 33 33 rfl _ _ rfl rfl _ _ bf ?_);exact bodyPost_end (results_none rfl _ _ _) rfl a0
theorem Hx{cb nb num:Nat}{lv nv:Value}{pre nt:Ck.Env}(a3:w.heap[b]?=some (.cells #[v0,ss,fs,.map (some mb),iv num,lv] 62 (0,0)))(he:A9 w mb (pre ++ nt))(hs:Sc n0 b cb nb nv (nt.map (·.1)) w)(am:mb<n0)(aj:b≠mb)(hd:∀y∈pre,∀x∈nt,y.1≠x.1) :
  AA 113 #[pt nb 0,pt cb 0] w λ e w'=>e=.returned (.tuple #[])/\A9 w' mb pre/\Fm (λ j=>j=mb) w w':=by
 have ag:b<w:=(AB a3).1;obtain⟨m0,m1,m2⟩:=Md hs.nbk;have a0:∀w',Fm (λ j=>j=mb) w w'->w'.cell? cb=pt b 0/\cb<w'/\w'.cell? ⟨b,3,none⟩=some (.map (some mb))/\b<w':=λ w' hF=>by
  have ak:=(AB hs.cbk).1;have h1:=(hF.block cb ak (by have:=hs.cn;omega)).trans hs.cbk;have h2:=(hF.block b ag aj).trans a3;obtain⟨-,-,-,c3,-⟩:=Bc h2;exact⟨(Md h1).1,(Md h1).2.2,c3,by have:=hF.size;omega⟩
 have a4:∀(q:Nat) (x:List UInt8 × Mng) w',Fm (λ j=>j=mb) w w'->nt[q]?=x->∃g cap,nv=sL g 0 nt.length cap/\g<w'.heap.size/\w'.cell? ⟨g,q,none⟩=strV x.1:=λ q x w' hF hx=>by
  have h1:Strs n0 w' nv (nt.map (·.1)):=hs.own.since (λ j hj=>hF.block j (hs.own.lt hj).2 (by have:=(hs.own.lt hj).1;omega))
  obtain⟨g,cap,e1,e2,e3⟩:=h1.get (i:=q) (x:=x.1) (by rw[List.getElem?_map,hx];rfl);exact⟨g,cap,by simpa using e1,e2,e3⟩
 obtain⟨na,nc,ab,ai,ar⟩:=hs.own.slice;simp only[length_map] at ab ai;have aq:nt.length<=9223372036854775807:=by omega
 have ah:Hid (∀y∈pre,∀x∈nt,y.1≠x.1):=hd;subst ab;clear hs a3 hd;go_enter func113,ntmps113;go_wp2_with fail
 go_loopg [6] nt.length (λ gh i wr=>∃q:Nat,q<=nt.length/\gh=nt.length - q/\i=iv q/\Hid (A9 wr mb (pre ++ nt.drop q)/\Fm (λ j=>j=mb) w wr))
 case atStart=>exact⟨0,AO _,rfl,rfl,by simpa using he,Fm.refl _ _⟩
 case round=>
  obtain⟨q,hq,rfl,rfl,HI⟩:=hrel;obtain⟨hE,hF⟩:=HI.out;clear HI he;by_cases hlt:q<nt.length
  .have a8:(q:Int)<(nt.length:Int):=by omega
   have al:(0:Int)<=(q:Int):=by omega
   obtain⟨x,hx⟩:∃x,nt[q]?=some x:=⟨_,AN hlt⟩;obtain⟨g,cap,e1,e2,e3⟩:=a4 q x wr hF hx;simp only[Value.slice.injEq,true_and] at e1;obtain⟨rfl,rfl⟩:=e1;obtain⟨c0,c1,c2,c3⟩:=a0 wr hF;have ae:nt.drop q=x :: nt.drop (q+1):=by
    obtain⟨hi,rfl⟩:=AK hx;exact drop_eq_getElem_cons hi
   rw[ae] at hE;obtain⟨x1,x2⟩:=x;obtain⟨ob,ad,aa⟩:=U1 hE (λ y hy=>ah.out y hy (x1,x2) (mem_of_getElem? hx)) 0;have a6:∀ty,(Builtin.delete_ #[60,9] ty #[.map (some mb),strV x1]).run prog wr=.ok (.tuple #[]) (setB wr mb ob):=λ ty=>ad
   obtain⟨w2,a5⟩:∃w2,setB wr mb ob=w2:=⟨_,rfl⟩;have af:Fm (λ j=>j=mb) w w2:=by rw[<-a5];exact hF.trans (Fm.setB (X:=λ j=>j=mb) (g:=mb) rfl ob) (λ _ _ h=>h) (λ _ _ h=>h)
   rw[a5] at a6 aa;have a7:Hid (A9 w2 mb (pre ++ nt.drop (q+1))/\Fm (λ j=>j=mb) w w2):=⟨aa,af⟩;clear hE aa ad ae hx af a4 a0 hF a5;go_wp2_with fail;go_roundg (nt.length - (q+1))
   case measure=>omega
   case rel=>exact⟨q+1,by omega,rfl,by go_num,a7⟩
  .have a8:¬(q:Int)<(nt.length:Int):=by omega
   have a9:A9 wr mb pre:=by
    rw[drop_of_length_le (by omega),append_nil] at hE;exact hE
   clear hE a4 a0;go_wp2_with fail;exact bodyPost_end (results_none rfl _ _ _) rfl ⟨rfl,a9,hF⟩
theorem G3(hn:n0<=w) :
  AA 73 #[pt b 0] w λ e w'=>∃cb nb,e=.returned (.tuple #[.func (.func 112) #[] #[pt cb 0,pt nb 0],.func (.func 113) #[] #[pt nb 0,pt cb 0]])/\Sc n0 b cb nb sZ [] w'/\w.heap.size<=cb/\w.heap.size<=nb/\Below w w w':=by
 have aa:∀(fn:Fn) (first cap:Array Value) (w:World),(Instr.makeFunc fn first cap).run prog w=.ok (.func fn first cap) w:=λ _ _ _ _=>rfl
 obtain⟨w0,a0⟩:∃w0,w.alloc (.cells #[pt b 0] 97)=w0:=⟨_,rfl⟩;have a8:Below w w w0:=by rw[<-a0];exact (AF _ _).alloc (AD _) _
 have l0:w.heap.size<w0.heap.size:=by rw[<-a0];simp
 have a5:w0.heap[w.heap.size]?=some (.cells #[pt b 0] 97 (0,0)):=by rw[<-a0];exact heap_new _ _
 obtain⟨w1,a3⟩:∃w1,w0.alloc (.cells #[sZ] 33)=w1:=⟨_,rfl⟩;have a6:Below w0 w0 w1:=by rw[<-a3];exact (AF _ _).alloc (AD _) _
 have l1:w0.heap.size<w1.heap.size:=by rw[<-a3];simp
 have a7:w1.heap[w0.heap.size]?=some (.cells #[sZ] 33 (0,0)):=by rw[<-a3];exact heap_new _ _
 have a9:Below w w w1:=a8.trans (a6.mono (by omega));have a4:Sc n0 b w w0 sZ [] w1:=⟨(a6.block _ l0).trans a5,a7,Strs.nil _ _,hn,by omega,by omega,by simp[Value.ownBlock],by simp[Value.ownBlock]⟩;clear a5 a7;go_enter func73,ntmps73;go_wp2
 go_ret2
 exact⟨w,w0.heap.size,rfl,a4,AD _,by omega,a9⟩
def PaB(B:AS)(w:World)(tys:List (List UInt8))(v:Value):Prop:=∃row,SlRow B w 3 v tys.length row/\∀(i:Nat) t,tys[i]?=some t->row[i*3+1]?=strV t
def Qf(B:AS)(w:World)(hs:List Ck.Hd)(v:Value):Prop:=∃row,SlRow B w 7 v hs.length row/\∀(i:Nat) h,hs[i]?=some h->∃(nm:ByteArray) (ps:Value) (la:Option Addr) (ln lc:Nat) (ba:Option Addr) (bn bc:Nat) (pl:Int),row[i*7]?=some (.string nm)/\row[i*7+1]?=some (.bool h.on)/\row[i*7+2]?=ps/\row[i*7+3]?=strV h.result/\row[i*7+4]?=some (.slice la ln lc)/\row[i*7+5]?=some (.slice ba bn bc)/\row[i*7+6]?=iv pl/\PaB B w h.params ps
theorem PaB.since{B:AS}{a0:List (List UInt8)}(h:PaB B w a0 v)(s:Since B w w'):PaB B w' a0 v:=by
 obtain⟨row,h1,h2⟩:=h;exact⟨row,h1.since s,h2⟩
theorem Qf.since{B:AS}{hs:List Ck.Hd}(h:Qf B w hs v)(s:Since B w w'):Qf B w' hs v:=by
 obtain⟨row,h1,h2⟩:=h;refine⟨row,h1.since s,λ i h hi=>?_⟩;obtain⟨nm,ps,la,ln,lc,ba,bn,bc,pl,a1,a2,a3,a4,a5,a6,a7,a8⟩:=h2 i h hi;exact⟨nm,ps,la,ln,lc,ba,bn,bc,pl,a1,a2,a3,a4,a5,a6,a7,a8.since s⟩
theorem Qf.any{B:AS}{hs:List Ck.Hd}(h:Qf B w hs v):Yw w hs v:=by
 obtain⟨row,h1,h2⟩:=h;refine⟨row,h1.base (λ _ _=>trivial),λ i h hi=>?_⟩;obtain⟨nm,ps,la,ln,lc,ba,bn,bc,pl,a1,a2,a3,a4,a5,a6,a7,a0,p1,p2⟩:=h2 i h hi;exact⟨nm,ps,la,ln,lc,ba,bn,bc,pl,a1,a2,a3,a4,a5,a6,a7,a0,p1.base (λ _ _=>trivial),p2⟩
abbrev Old(n0 b mb:Nat):Nat->Prop:=λ j=>j<n0/\j≠b/\j≠mb
structure CkS(n0 b mb:Nat)(v0 ss fs:Value)(k:Ck.Kx)(env:Ck.Env)(ls:List (List UInt8))(lv:Value)(w:World):Prop where
 blk:w.heap[b]?=some (.cells #[v0,ss,fs,.map (some mb),iv k.number,lv] 62 (0,0))
 hds:Qf (Old n0 b mb) w k.heads fs
 env:A9 w mb env
 loc:Strs n0 w lv ls
 hb:b<n0
 hm:mb<n0
 bm:b≠mb
 sz:n0<=w
structure KOk(k:Ck.Kx)(env:Ck.Env):Prop where
 eok:D0 env
 elen:∀x∈env,x.2.type.length<=1000
 res:∀h∈k.heads,h.result.length<=1000
 pars:∀h∈k.heads,∀t∈h.params,t.length<=1000
 num:k.number<=k.heads.length
 cur:∃h,k.heads[k.number]?=some h/\h.result=k.result
theorem KOk.cx{k:Ck.Kx}{env:Ck.Env}(h:KOk k env):CxOk (k.at env):=⟨h.elen,h.res,h.pars,h.num⟩
theorem CkS.at{k:Ck.Kx}{env:Ck.Env}{ls:List (List UInt8)}{lv:Value}(h:CkS n0 b mb v0 ss fs k env ls lv w):CkAt w b mb (k.at env):=⟨⟨v0,ss,fs,lv,h.blk,h.hds.any⟩,h.env⟩
theorem CkS.keep{k:Ck.Kx}{env:Ck.Env}{ls:List (List UInt8)}{lv:Value}(h:CkS n0 b mb v0 ss fs k env ls lv w)(hb:Below w w w'):CkS n0 b mb v0 ss fs k env ls lv w':=
 ⟨(hb.block _ (by have:=h.hb;have:=h.sz;omega)).trans h.blk,h.hds.since (Since.of_below hb),h.env.since (hb.block _ h.env.lt),h.loc.since (λ j hj=>hb.block _ (h.loc.lt hj).2),h.hb,h.hm,h.bm,AP h.sz hb.size⟩
structure Apart(lv nv:Value)(cb nb:Nat):Prop where
 c:lv.ownBlock≠cb
 n:lv.ownBlock≠nb
 v:∀j,lv.ownBlock=some j->nv.ownBlock≠some j
abbrev Iv(b mb nb:Nat)(lv nv:Value):Nat->Prop:=λ j=>j=b\/j=mb\/j=nb\/lv.ownBlock=some j\/nv.ownBlock=some j
def Iw(n0 b mb cb nb:Nat)(v0 ss fs:Value)(k:Ck.Kx)(ls:List (List UInt8))(lv nv:Value)(names:List (List UInt8))(x:AQ)(w:World)(r:Ck.R (Ck.Env × List (List UInt8)))(e:Ending)(w':World):Prop:=
 match r with
 | .inl (env',ls')=>∃lv' nv',e=.returned (iv ls.length)/\CkS n0 b mb v0 ss fs k env' ls' lv' w'/\Sc n0 b cb nb nv' (names ++ [x]) w'/\Apart lv' nv' cb nb/\Fm (Iv b mb nb lv nv) w w'/\(∀j,lv'.ownBlock=some j->lv.ownBlock=some j\/w.heap.size<=j)/\(∀j,nv'.ownBlock=some j->nv.ownBlock=some j\/w.heap.size<=j)
 | .inr (a,er)=>e=.panicked (Ag a er)/\Fm (Iv b mb nb lv nv) w w'
theorem Jl{cb nb:Nat}{lv nv:Value}{k:Ck.Kx}{env:Ck.Env}{ls names:List (List UInt8)}(h:CkS n0 b mb v0 ss fs k env ls lv w)(bk:D0 env)(hs:Sc n0 b cb nb nv names w)(ha:Apart lv nv cb nb)(hl:ls.length<=32)(bt:names.length<=100000)(x:AQ)(p kind:Nat)(slot:Int)(ty:AQ) :
  AA 76 #[pt b 0,.func (.func 112) #[] #[pt cb 0,pt nb 0],strV x,iv p,.agg #[iv kind,iv slot,strV ty]] w λ e w'=>Iw n0 b mb cb nb v0 ss fs k ls lv nv names x w (Ck.loc env ls x p kind ty) e w':=by
 obtain⟨w0,av⟩:∃w0,w.alloc (.cells #[iv kind,iv slot,strV ty] 125)=w0:=⟨_,rfl⟩;have bf:Below w w w0:=by rw[<-av];exact (AF _ _).alloc (AD _) _
 have l0:w.heap.size<w0.heap.size:=by rw[<-av];simp
 have ay:w0.heap[w.heap.size]?=some (.cells #[iv kind,iv slot,strV ty] 125 (0,0)):=by rw[<-av];exact heap_new _ _
 obtain⟨w1,b4⟩:∃w1,w0.setCell ⟨w,1,none⟩ (iv ls.length)=w1:=⟨_,rfl⟩;have ar:Below w w w1:=by rw[<-b4];exact bf.setCell (p:=⟨w,1,none⟩) (AD _) _
 have aw:w1.heap[w.heap.size]?=some (.cells #[iv kind,iv ls.length,strV ty] 125 (0,0)):=by rw[<-b4];simp[World.setCell,Array.getElem?_modify,ay]
 have l1:w.heap.size<w1.heap.size:=(AB aw).1;have h1:=h.keep ar;have bu:cb<w:=(AB hs.cbk).1;have ba:nb<w:=(AB hs.nbk).1;have b7:Sc n0 b cb nb nv names w1:=hs.keep (λ j hj=>ar.block j (by rcases hj with rfl | rfl | h;exact bu;exact ba;exact (hs.own.lt h).2));have hN:=Mf h1.blk h1.env bk b7 h1.sz h1.hm bt x p ⟨kind,ls.length,ty⟩;obtain⟨-,-,-,-,-,c5,-⟩:=Bc ((bf.block _ (by have:=h.hb;have:=h.sz;omega)).trans h.blk);obtain⟨d0,d1,d2,f0,f1,f2⟩:=Az ay;obtain⟨e0,e1,e2,-⟩:=Az aw;obtain⟨la,lc,rfl,-,-⟩:=h.loc.slice;have c2:b<w0:=by have:=h.hb;have:=h.sz;omega
 have c3:(ls.length:Int)<=32:=by omega
 obtain⟨R,HR⟩:∃R,Hid (Ck.loc env ls x p kind ty=R):=⟨_,rfl⟩;rw[HR.out];have ai:Hid (R=Ck.bind (Ck.note env x p ⟨kind,ls.length,ty⟩) λ e=>Ck.bind (Ck.need (decide (ls.length<32)) p 36) λ _=>.inl (e,ls ++ [ty])):=HR.out.symm;generalize Ck.note env x p ⟨kind,ls.length,ty⟩=C at *;clear HR;go_enter func76,ntmps76;go_wp2_with fail;refine hN.mono ?_;rintro e w2 hP;clear hN;rcases C with env' | ⟨a,er⟩
 rotate_left
 .obtain⟨hm,bo⟩:=hP;obtain rfl:=hm;have a3:Iw n0 b mb cb nb v0 ss fs k ls (.slice la ls.length lc) nv names x w R (.panicked (Ag a er)) w2:=by rw[ai.out];exact⟨rfl,BD (ar.trans (bo.mono (by omega)))⟩
  exact⟨rfl,a3⟩
 obtain⟨rfl,b0,⟨az,ag,aj⟩,ab⟩:=hP;have bw:=h.sz;have c7:=h.hb;have c1:=h.hm;have ad:∀j,nv.ownBlock=some j->n0<=j/\j<w.heap.size:=λ j hj=>hs.own.lt hj
 have aq:w2.heap[w.heap.size]?=some (.cells #[iv kind,iv ls.length,strV ty] 125 (0,0)):=(ab.block _ l1 (by rintro (e | e | e);omega;omega;have:=ad _ e;omega)).trans aw;have a5:=(ab.block b (by omega) (by rintro (e | e | e);exact h.bm e;have:=hs.nn;omega;have:=ad _ e;omega)).trans h1.blk;have ae:Strs n0 w2 (.slice la ls.length lc) ls:=h1.loc.since (λ j hj=>ab.block j (h1.loc.lt hj).2 (by rintro (e | e | e);have:=(h1.loc.lt hj).1;omega;exact ha.n (by rw[<-e];exact hj);exact ha.v j hj e));have af:Qf (Old n0 b mb) w2 k.heads fs:=h1.hds.since (ab.since (λ j hj=>by rintro (e | e | e);exact hj.2.2 e;have:=hs.nn;have:=hj.1;omega;have:=ad _ e;have:=hj.1;omega));have bs:=ab.size;have h2:CkS n0 b mb v0 ss fs k env' ls (.slice la ls.length lc) w2:=⟨a5,af,b0,ae,h.hb,h.hm,h.bm,by omega⟩;have am:Fm (Iv b mb nb (.slice la ls.length lc) nv) w w2:=(Fm.of_below (X:=λ _=>False) ar).trans ab (λ _ _ h=>h.elim) (λ j _ h=>by rcases h with h | h | h;exact AJ (AI h);exact AJ (AJ (AI h));exact AJ (AJ (AJ (AJ h))));obtain⟨c4,c8,bj,-⟩:=Az aq;have l2:w<w2.heap.size:=(AB aq).1;clear c5 d0 d1 d2 f0 f1 f2 e0 e1 e2 av b4;by_cases hl32:ls.length<32
 rotate_left
 .have b3:¬(ls.length:Int)<32:=by omega
  have br:decide ((ls.length:Int)<32)=false:=decide_eq_false b3;have a3:Iw n0 b mb cb nb v0 ss fs k ls (.slice la ls.length lc) nv names x w R (.panicked (Ag p 36)) w2:=by rw[ai.out];show Iw _ _ _ _ _ _ _ _ _ _ _ _ _ _ _ (Ck.bind (Ck.need (decide (ls.length<32)) p 36) _) _ _;rw[decide_eq_false hl32];exact⟨rfl,am⟩
  have hN:=Ap p 36 w2;clear h1 h hs b7 ag ab b0 h2 a5 af ae ai;go_wp2_with fail;refine hN.mono ?_;rintro e w3 ⟨rfl,rfl⟩;exact⟨rfl,a3⟩
 have b3:(ls.length:Int)<32:=by omega
 have br:decide ((ls.length:Int)<32)=true:=decide_eq_true b3;have bh:Hid (R=.inl (env',ls ++ [ty])):=by show _=_;rw[ai.out];show Ck.bind (Ck.need (decide (ls.length<32)) p 36) _=_;rw[decide_eq_true hl32];rfl
 have hN:=Aw p 36 w2;go_wp2_with fail;refine hN.mono ?_;rintro e w3 ⟨rfl,bg⟩;obtain rfl:=bg.symm;clear hN bg ai;obtain⟨-,-,-,-,-,c5,-,-,-,-,-,c0⟩:=Bc a5;have b9:b<w2:=by omega
 go_wp2_with fail
 have hS:∀w',Below w2 w2 w'->(w'.cell? ⟨b,5,none⟩=some (.slice la ls.length lc)/\w'.cell? ⟨w,2,none⟩=strV ty):=λ w' hb=>⟨((bcell hb).1 _ _ b9).trans c5,((bcell hb).1 _ _ l2).trans bj⟩
 refine Vv.wpE_begin (S:=λ w'=>w'.cell? ⟨b,5,none⟩=some (.slice la ls.length lc)/\w'.cell? ⟨w,2,none⟩=strV ty) (N:=λ j=>decide (j<11)) (by kernel_rfl) ?_;have aa:=hS w2.drew (AF _ _).drew;refine Aa 27 [11] 0 (pt b 0) aa ?_;refine Aa 28 [11] 1 (pt b 0) aa ?_;refine Aa 29 [11] 2 (pt b 0) aa ?_;refine Aa 30 [11] 3 (pt b 5) aa ?_;refine Aa 31 [11] 4 (.slice la ls.length lc) aa ?_;refine Aa 32 [11] 5 (pt w 2) aa ?_;refine Aa 33 [11] 6 (strV ty) aa ?_;obtain⟨w5,b5⟩:∃w5,w2.drew.alloc (.cells #[strV ty] 9)=w5:=⟨_,rfl⟩;have al:Below w2 w2 w5:=by
  rw[<-b5];have h9:Below w2.drew.heap.size w2.drew (w2.drew.alloc (.cells #[strV ty] 9)):=(AF _ _).alloc (AD _) _;exact⟨h9.os,h9.tape,h9.output,h9.size,h9.block⟩
 have a8:w5.heap[w2.heap.size]?=some (.cells #[strV ty] 9 (0,0)):=by rw[<-b5];exact heap_new w2.drew _
 have l5:w2.heap.size<w5.heap.size:=(AB a8).1;refine Ah 7 λ K hK=>?_
 go_simp;refine hK _ _ (λ _=>hS w5 al) ?_;clear hK K
 try simp only[aP]
 have h5:=h2.keep al;obtain⟨g6,c6,w6,bc,bb,ah,a6⟩:=h5.loc.push a8 h5.sz (by omega) 1 33;have a0:∀j,(Value.slice la ls.length lc).ownBlock=some j->n0<=j/\j<w.heap.size:=λ j hj=>h.loc.lt hj
 have au:w6.heap[b]?=some (.cells #[v0,ss,fs,.map (some mb),iv k.number,.slice la ls.length lc] 62 (0,0)):=(Dt ah (by omega) (λ e=>by have:=a0 _ e;omega)).trans h5.blk;have b6:w6.heap[w.heap.size]?=some (.cells #[iv kind,iv ls.length,strV ty] 125 (0,0)):=(Dt ah (by omega) (λ e=>by have:=a0 _ e;omega)).trans ((al.block _ l2).trans aq);obtain⟨-,-,-,-,-,ax,-,-,-,-,-,bx⟩:=Bc au;obtain⟨y0,y1,y2,-⟩:=Az b6;refine Ah 8 λ K hK=>?_
 refine Cl _ _ 33 rfl _ _ rfl rfl _ _ bc ?_;refine hK _ _ (λ _=>⟨ax,y2⟩) ?_;clear hK K
 try simp only[aP]
 have bq:b<w6:=(AB au).1;refine Ah 9 λ K hK=>?_
 go_simp;refine hK _ _ (λ _=>⟨ax,y2⟩) ?_;clear hK K
 try simp only[aP]
 refine Ah 10 λ K hK=>?_
 go_simp;refine hK _ _ (λ _=>⟨ax,y2⟩) ?_;clear hK K
 try simp only[aP]
 refine Ah 11 λ K hK=>?_
 go_simp;refine hK _ _ (λ h=>by cases h) ?_;clear hK K
 try simp only[aP]
 refine Vv.wpE_done (by kernel_rfl) ?_;obtain⟨w7,a9⟩:∃w7,w6.setCell ⟨b,5,none⟩ (sL g6 0 (ls.length+1) c6)=w7:=⟨_,rfl⟩;have b8:w7.heap[w.heap.size]?=some (.cells #[iv kind,iv ls.length,strV ty] 125 (0,0)):=by rw[<-a9,Below.heap_setCell _ _ _ _ (by show w≠b;omega)];exact b6
 obtain⟨u0,u1,u2,-⟩:=Az b8;have l7:w.heap.size<w7.heap.size:=(AB b8).1;have a3:Iw n0 b mb cb nb v0 ss fs k ls (.slice la ls.length lc) nv names x w R (.returned (iv ls.length)) w7:=by
  rw[bh.out];have bi:=ah.size;have a7:∀j,j<w5.heap.size->j≠b->(Value.slice la ls.length lc).ownBlock≠some j->w7.heap[j]?=w5.heap[j]?:=λ j h1 h2 h3=>by rw[<-a9,Below.heap_setCell _ _ _ _ (by show j≠b;exact h2)];exact Dt ah h1 h3
  have bn:n0<=g6:=by
   rcases a6 with e | e
   .exact (a0 _ e).1
   .omega
  have a4:∀j,az.ownBlock=some j->n0<=j/\j<w2.heap.size:=λ j hj=>ag.own.lt hj
  have ak:∀j,(Value.slice la ls.length lc).ownBlock=some j->az.ownBlock≠some j:=λ j hj e=>by
   rcases aj j e with e2 | e2
   .exact ha.v j hj e2
   .have:=a0 j hj;omega
  refine⟨sL g6 0 (ls.length+1) c6,az,rfl,⟨?_,?_,?_,?_,h.hb,h.hm,h.bm,?_⟩,?_,⟨?_,?_,?_⟩,?_,?_,?_⟩
  .rw[<-a9];simp[World.setCell,Array.getElem?_modify,au]
  .exact h5.hds.since ⟨by rw[<-a9];simpa [World.setCell] using bi,λ j hj hl=>a7 j hl hj.2.1 (λ e=>by have:=a0 _ e;have:=hj.1;omega)⟩
  .exact h5.env.since (a7 mb (by omega) (λ e=>h.bm e.symm) (λ e=>by have:=a0 _ e;omega))
  .refine bb.since (λ j hj=>?_);have:g6=j:=by simpa [Value.ownBlock] using hj
   rw[<-a9,Below.heap_setCell _ _ _ _ (by show j≠b;omega)]
  .have:w7=w6.heap.size:=by rw[<-a9];simp[World.setCell]
   omega
  .refine ag.keep (λ j hj=>?_);have bv:j<w2.heap.size:=by
    rcases hj with rfl | rfl | e
    .omega
    .omega
    .exact (a4 j e).2
   have bp:j≠b:=by
    rcases hj with rfl | rfl | e
    .have:=ag.cn;omega
    .have:=ag.nn;omega
    .have:=(a4 j e).1;omega
   have bl:(Value.slice la ls.length lc).ownBlock≠some j:=by
    rcases hj with rfl | rfl | e
    .exact ha.c
    .exact ha.n
    .exact λ e2=>ak j e2 e
   exact (a7 j (by omega) bp bl).trans (al.block j bv)
  .intro e2;have e3:g6=cb:=by simpa [Value.ownBlock] using e2
   rcases a6 with e | e
   .exact ha.c (by rw[<-e3];exact e)
   .omega
  .intro e2;have e3:g6=nb:=by simpa [Value.ownBlock] using e2
   rcases a6 with e | e
   .exact ha.n (by rw[<-e3];exact e)
   .omega
  .intro j hj e2;have h8:g6=j:=by simpa [Value.ownBlock] using hj
   rcases a6 with e | e
   .exact ak j (by rw[<-h8];exact e) e2
   .have:=(a4 j e2).2;omega
  .have h8:Fm (Iv b mb nb (.slice la ls.length lc) nv) w w5:=am.trans (Fm.of_below (X:=λ _=>False) al) (λ _ _ h=>h) (λ _ _ h=>h.elim);have h9:Fm (Iv b mb nb (.slice la ls.length lc) nv) w w6:=h8.trans (Fm.grown (X:=λ j=>(Value.slice la ls.length lc).ownBlock=some j) ah (λ j h=>h)) (λ _ _ h=>h) (λ _ _ h=>AJ (AJ (AJ (AI h))));rw[<-a9];exact h9.trans (Fm.set (X:=λ j=>j=b) rfl 5 _) (λ _ _ h=>h) (λ _ _ h=>AI h)
  .intro j hj;have h8:g6=j:=by simpa [Value.ownBlock] using hj
   rcases a6 with e | e
   .exact AI (by rw[<-h8];exact e)
   .exact AJ (by omega)
  .intro j hj;rcases aj j hj with e | e
   .exact AI e
   .exact AJ (by omega)
 rw[a9];clear bb ah a6 bc h5 h2 h1 h hs b7 ag ab b0 a5 af ae bh au b6 b8 b5 a9 hS aa a8 aq aw ay ha;simp only[Exit.inBlock,Exit.then];refine ‹∀(a:Act) (w:World),_->_› _ _ ?_;go_wp2;go_ret;exact a3
theorem Aj{y6 y7 y8:Value}(h:w.heap[g]?=some (.cells #[y0,y1,y2,y3,y4,y5,y6,y7,y8] T (0,0))):w.cell? g=y0/\w.cell? ⟨g,1,none⟩=y1/\w.cell? ⟨g,2,none⟩=y2/\w.cell? ⟨g,3,none⟩=y3/\w.cell? ⟨g,4,none⟩=y4/\w.cell? ⟨g,5,none⟩=y5/\w.cell? ⟨g,6,none⟩=y6/\w.cell? ⟨g,7,none⟩=y7/\w.cell? ⟨g,8,none⟩=y8/\w.frozen? g=false/\w.frozen? ⟨g,1,none⟩=false/\w.frozen? ⟨g,2,none⟩=false/\w.frozen? ⟨g,3,none⟩=false/\w.frozen? ⟨g,4,none⟩=false/\w.frozen? ⟨g,5,none⟩=false/\w.frozen? ⟨g,6,none⟩=false/\w.frozen? ⟨g,7,none⟩=false/\w.frozen? ⟨g,8,none⟩=false:=by
 refine⟨?_,?_,?_,?_,?_,?_,?_,?_,?_,?_,?_,?_,?_,?_,?_,?_,?_,?_⟩
 all_goals first | simp[World.cell?,h] | simp[World.frozen?,h]
abbrev A6(w:World)(g:Nat)(x0 x1 x2 x3 x4 x5 x6 x7 x8:Value):World:=(((((((((w.setCell g x0).setCell ⟨g,1,none⟩ x1).setCell ⟨g,2,none⟩ x2).setCell ⟨g,3,none⟩ x3).setCell ⟨g,4,none⟩ x4).setCell ⟨g,5,none⟩ x5).setCell ⟨g,6,none⟩ x6).setCell ⟨g,7,none⟩ x7).setCell ⟨g,8,none⟩ x8)
theorem Bb(w:World)(g:Nat)(x0 x1 x2 x3 x4 x5 x6 x7 x8:Value):(A6 w g x0 x1 x2 x3 x4 x5 x6 x7 x8).heap.size=w.heap.size:=by simp[A6,World.setCell]
theorem Au{k:Nat}(hk:k≠g)(x0 x1 x2 x3 x4 x5 x6 x7 x8:Value):(A6 w g x0 x1 x2 x3 x4 x5 x6 x7 x8).heap[k]?=w.heap[k]?:=by
 unfold A6
 iterate 9 rw[Below.heap_setCell _ _ _ _ (by show k≠g;exact hk)]
theorem Bs{n:Nat}(h:Below n w w')(hg:n<=g)(x0 x1 x2 x3 x4 x5 x6 x7 x8:Value):Below n w (A6 w' g x0 x1 x2 x3 x4 x5 x6 x7 x8):=(((((((((h.setCell (p:=⟨g,0,none⟩) hg x0).setCell (p:=⟨g,1,none⟩) hg x1).setCell (p:=⟨g,2,none⟩) hg x2).setCell (p:=⟨g,3,none⟩) hg x3).setCell (p:=⟨g,4,none⟩) hg x4).setCell (p:=⟨g,5,none⟩) hg x5).setCell (p:=⟨g,6,none⟩) hg x6).setCell (p:=⟨g,7,none⟩) hg x7).setCell (p:=⟨g,8,none⟩) hg x8)
theorem Y3{y6 y7 y8:Value}(h:w.heap[g]?=some (.cells #[y0,y1,y2,y3,y4,y5,y6,y7,y8] T (0,0)))(x0 x1 x2 x3 x4 x5 x6 x7 x8:Value):(A6 w g x0 x1 x2 x3 x4 x5 x6 x7 x8).heap[g]?=some (.cells #[x0,x1,x2,x3,x4,x5,x6,x7,x8] T (0,0)):=by
 simp[A6,World.setCell,Array.getElem?_modify,h]
theorem Jm(w:World)(x0 x1 x2 x3 x4 x5 x6 x7 x8:Value):∃wz w4,w.alloc (.cells #[iv 0,sE,iv 0,.bool false,iv 0,sZ,sZ,sZ,iv 0] 46)=wz/\A6 wz w x0 x1 x2 x3 x4 x5 x6 x7 x8=w4/\Below w w w4/\w4=w.heap.size+1/\wz=w.heap.size+1/\Below w w wz/\w4.heap[w.heap.size]?=some (.cells #[x0,x1,x2,x3,x4,x5,x6,x7,x8] 46 (0,0))/\wz.heap[w.heap.size]?=some (.cells #[iv 0,sE,iv 0,.bool false,iv 0,sZ,sZ,sZ,iv 0] 46 (0,0)):=by
 have hb:Below w w (w.alloc (.cells #[iv 0,sE,iv 0,.bool false,iv 0,sZ,sZ,sZ,iv 0] 46)):=(AF _ _).alloc (AD _) _;refine⟨_,_,rfl,rfl,Bs hb (AD _) _ _ _ _ _ _ _ _ _ ,by rw[Bb];simp,by simp,hb,Y3 (heap_new _ _) _ _ _ _ _ _ _ _ _ ,heap_new _ _⟩
theorem Ak{o:Nat}(h:w'.heap[g]?=w.heap[g]?):w'.cell? ⟨g,o,none⟩=w.cell? ⟨g,o,none⟩:=by simp[World.cell?,h]
abbrev stA(k:Nat)(n:AQ)(s1 s2 s3:Value)(p:Nat):Array Value:=#[iv k,strV n,iv 0,.bool false,iv 0,s1,s2,s3,iv p]
theorem D5(w:World)(k:Nat)(n:AQ)(s1 s2 s3:Value)(p:Nat):∃w0 w1,w.alloc (.cells (stA k n s1 s2 s3 p) 46)=w0/\w0.alloc (.cells #[iv 0,sE,iv 0,.bool false,iv 0,sZ,sZ,sZ,iv 0] 46)=w1/\w.heap.size<w0.heap.size/\w0.heap.size<w1.heap.size/\Below w w w0/\Below w w w1/\Below w0 w0 w1/\w1.heap[w.heap.size]?=some (.cells (stA k n s1 s2 s3 p) 46 (0,0))/\w1.heap[w0.heap.size]?=some (.cells #[iv 0,sE,iv 0,.bool false,iv 0,sZ,sZ,sZ,iv 0] 46 (0,0)):=by
 have a0:Below w w (w.alloc (.cells (stA k n s1 s2 s3 p) 46)):=(AF _ _).alloc (AD _) _;have a6:(w.alloc (.cells (stA k n s1 s2 s3 p) 46)).heap.size=w.heap.size+1:=by simp
 have a4:(w.alloc (.cells (stA k n s1 s2 s3 p) 46)).heap[w.heap.size]?=some (.cells (stA k n s1 s2 s3 p) 46 (0,0)):=heap_new _ _;obtain⟨w0,a5⟩:∃w0,w.alloc (.cells (stA k n s1 s2 s3 p) 46)=w0:=⟨_,rfl⟩;rw[a5] at a0 a6 a4;obtain⟨w1,-,a7,-,-,-,a9,a3,-,a8⟩:=Jm w0 (iv 0) (iv 0) (iv 0) (iv 0) (iv 0) (iv 0) (iv 0) (iv 0) (iv 0);exact⟨w0,w1,a5,a7,by omega,by omega,a0,a0.trans (a3.mono (by omega)),a3,(a3.block _ (by omega)).trans a4,a8⟩
def Ax(w:World)(r:Ck.R CS)(e:Ending)(w':World):Prop:=
 match r with
 | .inl x=>(∃cs,e=.returned (.agg cs.toArray)/\Ch (From w) w' x cs)/\Below w w w'
 | .inr (a,er)=>e=.panicked (Ag a er)/\Below w w w'
def Mg(w:World)(k:Nat)(r:Ck.R Mng)(e:Ending)(w':World):Prop:=
 match r with
 | .inl m=>e=.returned (.tuple #[.agg #[iv k,sE,iv m.slot,.bool (m.kind == 1),iv 0,sZ,sZ,sZ,iv 0],strV m.type])/\Below w w w'
 | .inr (a,er)=>e=.panicked (Ag a er)/\Below w w w'
theorem Hy{c:Ck.Cx}(h:CkAt w b mb c)(k:Nat)(t:AQ)(s1 s2 s3:Value)(p:Nat) :
  AA 169 #[pt b 0,.agg (stA k t s1 s2 s3 p)] w λ e w'=>Mg w k (Ck.targ c.env t p) e w':=by
 obtain⟨w0,w1,b5,b4,l0,l1,b0,au,bb,b8,b7⟩:=D5 w k t s1 s2 s3 p;have hc:=h.keep au;have hb:=h.lt;obtain⟨v0,ss,fs,ls,ab,-⟩:=hc.blk;have a6:=hc.env;obtain⟨c0,c1,c2,c3,c4,c5,-⟩:=Bc ab;obtain⟨d0,d1,d2,d3,d4,d5,d6,d7,d8,-⟩:=Aj b8;have aw:=λ w' (he:A9 w' mb c.env)=>Fv he t
 have ax:Ck.targ c.env t p=Ck.bind (Ck.need ((Ck.look c.env t).kind != 0) p 33) λ _=>Ck.bind (Ck.need ((Ck.look c.env t).kind == 3 || (Ck.look c.env t).kind == 1) p 37) λ _=>.inl (Ck.look c.env t):=rfl
 rw[ax];generalize Ck.look c.env t=m at *;obtain⟨mk,ms,mt⟩:=m;simp only at *;obtain⟨R,HR⟩:∃R,Hid ((Ck.bind (Ck.need (mk != 0) p 33) λ _=>Ck.bind (Ck.need (mk == 3 || mk == 1) p 37) λ _=>.inl (Mng.mk mk ms mt))=R):=⟨_,rfl⟩;rw[HR.out];clear ax hc ab h;go_enter func169,ntmps169;go_wp2_with fail;refine Vv.wpE_begin (S:=λ w'=>w'.cell? ⟨b,3,none⟩=some (.map (some mb))/\w'.cell? ⟨w,1,none⟩=strV t/\A9 w' mb c.env) (N:=λ _=>true) (by kernel_rfl) ?_;have a0:w1.drew.cell? ⟨b,3,none⟩=some (.map (some mb))/\w1.drew.cell? ⟨w,1,none⟩=strV t/\A9 w1.drew mb c.env:=⟨c3,d1,a6⟩;refine Aa 7 [] 0 (pt b 0) a0 ?_;refine Aa 8 [] 1 (pt b 0) a0 ?_;refine Aa 9 [] 2 (pt b 3) a0 ?_;refine Aa 10 [] 3 (.map (some mb)) a0 ?_;refine Aa 11 [] 4 (pt w 1) a0 ?_;refine Aa 12 [] 5 (strV t) a0 ?_;refine Aa 13 [] 6 (Hu ⟨mk,ms,mt⟩) a0 ?_ (hy:=(λ w' hS=>by obtain⟨g0,g1,g2⟩:=hS;have hr:=aw w' g2;go_simp));obtain⟨wz,w3,b3,aq,a7,ar,av,ai,a4,a5⟩:=U5 w1.drew (iv mk) (iv ms) (strV mt);refine Ah 7 λ K hK=>?_
 go_simp;refine hK _ _ (λ _=>⟨((bcell ai).1 _ _ (show b<w1 by omega)).trans c3,((bcell ai).1 _ _ (show w<w1.heap.size by omega)).trans d1,a6.since (ai.block _ a6.lt)⟩) ?_;clear hK K
 try simp only[aP]
 replace a5:wz.heap[w1.heap.size]?=some (.cells #[iv 0,iv 0,sE] 125 (0,0)):=a5;replace a4:w3.heap[w1.heap.size]?=some (.cells #[iv mk,iv ms,strV mt] 125 (0,0)):=a4;replace aq:((wz.setCell w1 (iv mk)).setCell ⟨w1,1,none⟩ (iv ms)).setCell ⟨w1,2,none⟩ (.string ⟨mt.toArray⟩)=w3:=aq;have ba:w1<w3.heap.size:=by have e:w3=w1.heap.size+1:=ar;omega
 have az:w1<wz.heap.size:=by have e:wz=w1.heap.size+1:=av;omega
 clear ar av;replace a7:Below w1 w1 w3:=⟨a7.os,a7.tape,a7.output,a7.size,a7.block⟩;obtain⟨z0,z1,z2,f0,f1,f2⟩:=Az a5;have k3:=((bcell a7).1 b 3 (by omega)).trans c3;have kd:=((bcell a7).1 w 1 (by omega)).trans d1;refine Ah 8 λ K hK=>?_
 go_simp;refine hK _ _ (λ _=>⟨k3,kd,a6.since (a7.block _ a6.lt)⟩) ?_;clear hK K
 try simp only[aP]
 refine Vv.wpE_done (by kernel_rfl) ?_;have k0:=((bcell a7).1 w 0 (by omega)).trans d0;have k8:=((bcell a7).1 w 8 (by omega)).trans d8;obtain⟨n0,n1,n2,-⟩:=Az a4;have a8:Below w w w3:=au.trans (a7.mono (by omega));have aj:=(a7.block _ (by omega)).trans b7;clear z0 z1 z2 f0 f1 f2 az b3 aq a0 aw c0 c1 c2 c3 c4 c5 d0 d1 d2 d3 d4 d5 d6 d7 d8 a6 b5 b4 a5 ai k3 kd;simp only[Exit.inBlock,Exit.then];refine ‹∀(a:Act) (w:World),_->_› _ _ ?_;by_cases h0:mk=0
 .have b0:((mk:Int) != 0)=false:=by simp[h0]
  have a3:Hid (Mg w k R (.panicked (Ag p 33)) w3):=by rw[<-HR.out,h0];exact⟨rfl,a8⟩
  have hN:=Ap p 33 w3;clear h0;go_wp2_with fail;refine hN.mono ?_;rintro e w4 ⟨rfl,rfl⟩;exact⟨rfl,a3.out⟩
 have b6:((mk:Int) != 0)=true:=by simp;omega
 have a9:Hid (R=Ck.bind (Ck.need (mk == 3 || mk == 1) p 37) λ _=>.inl (Mng.mk mk ms mt)):=by show _=_;rw[<-HR.out];have:(mk != 0)=true:=(by simpa using h0);rw[this];rfl
 have hN:=Aw p 33 w3;clear HR h0;go_wp2_with fail;refine hN.mono ?_;rintro e w4 ⟨rfl,aa⟩;obtain rfl:=aa.symm;clear hN b6;have ah:w0<w3.heap.size:=by omega
 by_cases h3:mk=3
 .have b9:((mk:Int) == 3)=true:=by simp[h3]
  have ay:((mk:Int) == 1)=false:=by simp[h3]
  have ad:Hid (R=.inl (Mng.mk mk ms mt)):=by show _=_;rw[a9.out,h3];rfl
  have af:Hid ((mk == 1)=false):=by show _=_;rw[h3];rfl
  have hN:=Aw p 37 w3;clear a9 h3;go_wp2_with fail;refine hN.mono ?_;rintro e w4 ⟨rfl,aa⟩;obtain rfl:=aa.symm;clear hN;go_wp2_with fail;refine Vv.wpE_begin (S:=λ w'=>w'.cell? w=iv k/\w'.cell? w1=iv mk/\w'.cell? ⟨w1,1,none⟩=iv ms/\w'.cell? ⟨w1,2,none⟩=strV mt) (N:=λ j=>decide (j<11)) (by kernel_rfl) ?_;have a0:w3.drew.cell? w=iv k/\w3.drew.cell? w1=iv mk/\w3.drew.cell? ⟨w1,1,none⟩=iv ms/\w3.drew.cell? ⟨w1,2,none⟩=strV mt:=⟨k0,n0,n1,n2⟩;have ae:w3.drew.heap[w0.heap.size]?=some (.cells #[iv 0,sE,iv 0,.bool false,iv 0,sZ,sZ,sZ,iv 0] 46 (0,0)):=aj;have al:Below w w w3.drew:=a8.drew;have ak:w0<w3.drew.heap.size:=ah;generalize w3.drew=wd at *;clear k0 n0 n1 n2 aj a8 ah k8;have am:=a0;obtain⟨k0,n0,n1,n2⟩:=am;refine Aa 31 [11] 0 (pt w 0) a0 ?_;refine Aa 32 [11] 1 (iv k) a0 ?_;refine Aa 33 [11] 2 (pt w1 1) a0 ?_;refine Aa 34 [11] 3 (iv ms) a0 ?_;refine Aa 35 [11] 4 (pt w1 0) a0 ?_;refine Aa 36 [11] 5 (iv mk) a0 ?_;refine Aa 37 [11] 6 (.bool false) a0 ?_;refine Aa 38 [11] 7 (.agg #[iv k,sE,iv ms,.bool false,iv 0,sZ,sZ,sZ,iv 0]) a0 ?_;refine Aa 39 [11] 8 (pt w1 2) a0 ?_;refine Aa 40 [11] 9 (strV mt) a0 ?_;obtain⟨r0,r1,r2,r3,r4,r5,r6,r7,r8,t0,t1,t2,t3,t4,t5,t6,t7,t8⟩:=Aj ae;have ag:(A6 wd w0 (iv k) sE (iv ms) (.bool false) (iv 0) sZ sZ sZ (iv 0)).cell? w=iv k/\(A6 wd w0 (iv k) sE (iv ms) (.bool false) (iv 0) sZ sZ sZ (iv 0)).cell? w1=iv mk/\(A6 wd w0 (iv k) sE (iv ms) (.bool false) (iv 0) sZ sZ sZ (iv 0)).cell? ⟨w1,1,none⟩=iv ms/\(A6 wd w0 (iv k) sE (iv ms) (.bool false) (iv 0) sZ sZ sZ (iv 0)).cell? ⟨w1,2,none⟩=strV mt:=by
   refine⟨?_,?_,?_,?_⟩
   .exact (Ak (w:=wd) (Au (by omega) _ _ _ _ _ _ _ _ _ )).trans k0
   .exact (Ak (w:=wd) (Au (by omega) _ _ _ _ _ _ _ _ _ )).trans n0
   .exact (Ak (w:=wd) (Au (by omega) _ _ _ _ _ _ _ _ _ )).trans n1
   .exact (Ak (w:=wd) (Au (by omega) _ _ _ _ _ _ _ _ _ )).trans n2
  refine Ah 10 λ K hK=>?_
  go_simp;refine hK _ _ (λ _=>ag) ?_;clear hK K
  try simp only[aP]
  refine Ah 11 λ K hK=>?_
  go_simp;refine hK _ _ (λ h=>by cases h) ?_;clear hK K
  try simp only[aP]
  refine Vv.wpE_done (by kernel_rfl) ?_;have a3:Mg w k R (.returned (.tuple #[.agg #[iv k,sE,iv ms,.bool false,iv 0,sZ,sZ,sZ,iv 0],strV mt])) (A6 wd w0 (iv k) sE (iv ms) (.bool false) (iv 0) sZ sZ sZ (iv 0)):=by
   rw[ad.out];show _=Ending.returned (.tuple #[.agg #[iv k,sE,iv ms,.bool (mk == 1),iv 0,sZ,sZ,sZ,iv 0],strV mt])/\_;rw[af.out];exact⟨rfl,Bs al (by omega) _ _ _ _ _ _ _ _ _ ⟩
  clear ad af a0 ag ae a4;simp only[Exit.inBlock,Exit.then];refine ‹∀(a:Act) (w:World),_->_› _ _ ?_;go_wp2_with fail;exact bodyPost_ret (by simp[results,results169,go_sem,ak,r0,r1,r2,r3,r4,r5,r6,r7,r8]) rfl a3
 have b9:((mk:Int) == 3)=false:=by simp;omega
 by_cases h1:mk=1
 .have ay:((mk:Int) == 1)=true:=by simp[h1]
  have ad:Hid (R=.inl (Mng.mk mk ms mt)):=by show _=_;rw[a9.out,h1];rfl
  have af:Hid ((mk == 1)=true):=by show _=_;rw[h1];rfl
  have hN:=Aw p 37 w3;clear a9 h3 h1;go_wp2_with fail;refine hN.mono ?_;rintro e w4 ⟨rfl,aa⟩;obtain rfl:=aa.symm;clear hN;go_wp2_with fail;refine Vv.wpE_begin (S:=λ w'=>w'.cell? w=iv k/\w'.cell? w1=iv mk/\w'.cell? ⟨w1,1,none⟩=iv ms/\w'.cell? ⟨w1,2,none⟩=strV mt) (N:=λ j=>decide (j<11)) (by kernel_rfl) ?_;have a0:w3.drew.cell? w=iv k/\w3.drew.cell? w1=iv mk/\w3.drew.cell? ⟨w1,1,none⟩=iv ms/\w3.drew.cell? ⟨w1,2,none⟩=strV mt:=⟨k0,n0,n1,n2⟩;have ae:w3.drew.heap[w0.heap.size]?=some (.cells #[iv 0,sE,iv 0,.bool false,iv 0,sZ,sZ,sZ,iv 0] 46 (0,0)):=aj;have al:Below w w w3.drew:=a8.drew;have ak:w0<w3.drew.heap.size:=ah;generalize w3.drew=wd at *;clear k0 n0 n1 n2 aj a8 ah k8;have am:=a0;obtain⟨k0,n0,n1,n2⟩:=am;refine Aa 31 [11] 0 (pt w 0) a0 ?_;refine Aa 32 [11] 1 (iv k) a0 ?_;refine Aa 33 [11] 2 (pt w1 1) a0 ?_;refine Aa 34 [11] 3 (iv ms) a0 ?_;refine Aa 35 [11] 4 (pt w1 0) a0 ?_;refine Aa 36 [11] 5 (iv mk) a0 ?_;refine Aa 37 [11] 6 (.bool true) a0 ?_;refine Aa 38 [11] 7 (.agg #[iv k,sE,iv ms,.bool true,iv 0,sZ,sZ,sZ,iv 0]) a0 ?_;refine Aa 39 [11] 8 (pt w1 2) a0 ?_;refine Aa 40 [11] 9 (strV mt) a0 ?_;obtain⟨r0,r1,r2,r3,r4,r5,r6,r7,r8,t0,t1,t2,t3,t4,t5,t6,t7,t8⟩:=Aj ae;have ag:(A6 wd w0 (iv k) sE (iv ms) (.bool true) (iv 0) sZ sZ sZ (iv 0)).cell? w=iv k/\(A6 wd w0 (iv k) sE (iv ms) (.bool true) (iv 0) sZ sZ sZ (iv 0)).cell? w1=iv mk/\(A6 wd w0 (iv k) sE (iv ms) (.bool true) (iv 0) sZ sZ sZ (iv 0)).cell? ⟨w1,1,none⟩=iv ms/\(A6 wd w0 (iv k) sE (iv ms) (.bool true) (iv 0) sZ sZ sZ (iv 0)).cell? ⟨w1,2,none⟩=strV mt:=by
   refine⟨?_,?_,?_,?_⟩
   .exact (Ak (w:=wd) (Au (by omega) _ _ _ _ _ _ _ _ _ )).trans k0
   .exact (Ak (w:=wd) (Au (by omega) _ _ _ _ _ _ _ _ _ )).trans n0
   .exact (Ak (w:=wd) (Au (by omega) _ _ _ _ _ _ _ _ _ )).trans n1
   .exact (Ak (w:=wd) (Au (by omega) _ _ _ _ _ _ _ _ _ )).trans n2
  refine Ah 10 λ K hK=>?_
  go_simp;refine hK _ _ (λ _=>ag) ?_;clear hK K
  try simp only[aP]
  refine Ah 11 λ K hK=>?_
  go_simp;refine hK _ _ (λ h=>by cases h) ?_;clear hK K
  try simp only[aP]
  refine Vv.wpE_done (by kernel_rfl) ?_;have a3:Mg w k R (.returned (.tuple #[.agg #[iv k,sE,iv ms,.bool true,iv 0,sZ,sZ,sZ,iv 0],strV mt])) (A6 wd w0 (iv k) sE (iv ms) (.bool true) (iv 0) sZ sZ sZ (iv 0)):=by
   rw[ad.out];show _=Ending.returned (.tuple #[.agg #[iv k,sE,iv ms,.bool (mk == 1),iv 0,sZ,sZ,sZ,iv 0],strV mt])/\_;rw[af.out];exact⟨rfl,Bs al (by omega) _ _ _ _ _ _ _ _ _ ⟩
  clear ad af a0 ag ae a4;simp only[Exit.inBlock,Exit.then];refine ‹∀(a:Act) (w:World),_->_› _ _ ?_;go_wp2_with fail;exact bodyPost_ret (by simp[results,results169,go_sem,ak,r0,r1,r2,r3,r4,r5,r6,r7,r8]) rfl a3
 have ay:((mk:Int) == 1)=false:=by simp;omega
 have a3:Hid (Mg w k R (.panicked (Ag p 37)) w3):=by
  rw[a9.out];have:(mk == 3 || mk == 1)=false:=by simp;exact⟨h3,h1⟩
  rw[this];exact⟨rfl,a8⟩
 have hN:=Ap p 37 w3;clear h3 h1 a9;go_wp2_with fail;refine hN.mono ?_;rintro e w4 ⟨rfl,rfl⟩;exact⟨rfl,a3.out⟩
theorem SlRow.nil9{B:AS}:SlRow B w 9 sZ 0 []:=⟨rfl,AI ⟨rfl,rfl⟩⟩
abbrev BE:=@SlRow.nil9
theorem Aq.nil{B:AS}:Aq B w [] []:=by rw[Aq]
theorem Gl{B:AS}{k s n:Nat}{f:Bool}{es:List CE}{b c:List CS}{s2 s3:Value}{r1 r2 r3:AR}(h1:SlRow B w 8 s1 es.length r1)(h2:Ar B w es r1)(h3:SlRow B w 9 s2 b.length r2)(h4:Aq B w b r2)(h5:SlRow B w 9 s3 c.length r3)(h6:Aq B w c r3):Ch B w (.mk k s f n es b c) [iv k,sE,iv s,.bool f,iv n,s1,s2,s3,iv 0]:=by
 rw[Ch];exact⟨s1,s2,s3,r1,r2,r3,rfl,h1,h2,h3,h4,h5,h6⟩
theorem Mh{env:Ck.Env}{m:Mng}(h:∀y∈env,y.2.type.length<=1000)(e:Ck.targ env x p=.inl m):m.type.length<=1000:=by
 obtain⟨_,-,e⟩:=Ao e;obtain⟨_,-,e⟩:=Ao e;cases e;exact Ma env x h
theorem Aq0{x:Px.Ex}(hE:EOk x){n:AQ}{c:Ck.Cx}{B:AS}{row:AR}(hc:CkAt w b mb c)(b9:CxOk c)(hr:SlRow B w 8 s1 1 row)(ha:Ai B w [x] row)(b2 b3:Option Addr)(m2 m3 d2 d3:Nat) :
  AA 142 #[pt b 0,.agg (stA 3 n s1 (.slice b2 m2 d2) (.slice b3 m3 d3) p)] w λ e w'=>Ax w (Ck.bind (Ck.targ c.env n p) λ m=>Ck.bind (Ck.need (Vv.mpT m.type).2.2 p 35) λ _=>Ck.bind (Ck.asked (Ck.cE c x,Ck.plc x) (Vv.mpT m.type).1) λ x=>.inl (CS.mk 3 m.slot (m.kind == 1) 0 [x] [] [])) e w':=by
 obtain⟨k,Hk⟩:∃k:Nat,Hid (3=k):=⟨_,rfl⟩;rw[Hk.out];obtain⟨w0,w1,c5,c1,l0,l1,cf,a8,co,bi,c8⟩:=D5 w k n s1 (.slice b2 m2 d2) (.slice b3 m3 d3) p;have b8:=hr.since (Since.of_below a8);have b6:=ha.since (Since.of_below a8);have b5:=hc.keep a8;have hT:=Hy b5 k n s1 (.slice b2 m2 d2) (.slice b3 m3 d3) p;obtain⟨g,og,cap,ka,oa,na,ta,aa,pa,cg,bu,rfl,bn,hg,rfl,⟨u0,u1,u2,u3,u4,u5,u6,u7⟩,ar,bb⟩:=Bd (args:=[x]) b8 b6 rfl;have hA:=λ w' (hb:Below w1 w1 w') ty=>B5 hE rfl (b5.keep hb) b9 (ar.since (Since.of_below hb)) (bb.since (Since.of_below hb)) ty
 obtain⟨ce,bl,rfl,-,-⟩:=ar.val;obtain⟨d0,d1,c3,bt,d4,d5,d6,d7,d8,-⟩:=Aj bi;have a9:∀m,Ck.targ c.env n p=.inl m->m.type.length<=1000:=λ m=>Mh b9.env
 obtain⟨R,HR⟩:∃R:Ck.R CS,Hid ((Ck.bind (Ck.targ c.env n p) λ m=>Ck.bind (Ck.need (Vv.mpT m.type).2.2 p 35) λ _=>Ck.bind (Ck.asked (Ck.cE c (.mk ka oa na ta aa pa),pa) (Vv.mpT m.type).1) λ x=>.inl (CS.mk k m.slot (m.kind == 1) 0 [x] [] []))=R):=⟨_,rfl⟩;show Calls _ _ _ _ λ e w'=>Ax w (Ck.bind (Ck.targ c.env n p) λ m=>Ck.bind (Ck.need (Vv.mpT m.type).2.2 p 35) λ _=>Ck.bind (Ck.asked (Ck.cE c (.mk ka oa na ta aa pa),pa) (Vv.mpT m.type).1) λ x=>.inl (CS.mk k m.slot (m.kind == 1) 0 [x] [] [])) e w'
 rw[HR.out];have ax:=HR;clear HR Hk;generalize Ck.targ c.env n p=C at *;generalize Ck.cE c (.mk ka oa na ta aa pa)=C2 at *;have i0:(0:Int)<1:=by omega
 have ch:([Px.Ex.mk ka oa na ta aa pa]:List Px.Ex).length=1:=rfl;clear hc hr ha hE b8 b6 b5 ar bb bi;simp only[length_cons,length_nil,Nat.zero_add] at *;go_enter func142,ntmps142;go_wp2_with fail;refine hT.mono ?_;rintro e w2 hP;clear hT c5 c1;rcases C with⟨mk,ms,mt⟩ | ⟨a,er⟩
 rotate_left
 .obtain⟨hm,ah⟩:=hP;obtain rfl:=hm;have a0:Ax w R (.panicked (Ag a er)) w2:=by rw[<-ax.out];exact⟨rfl,a8.trans (ah.mono (by omega))⟩
  exact⟨rfl,a0⟩
 obtain⟨rfl,ah⟩:=hP;have c6:mt.length<=1000:=a9 _ rfl;have b7:=ah.size;obtain⟨wz,w3,bx,c7,c0,bk,bo,cd,a6,ad⟩:=Jm w2 (iv k) sE (iv ms) (.bool (mk == 1)) (iv 0) sZ sZ sZ (iv 0);have lz:w2<wz.heap.size:=by omega
 have l3:w2<w3.heap.size:=by omega
 clear bk bo;obtain⟨z0,z1,z2,z3,z4,z5,z6,z7,z8,f0,f1,f2,f3,f4,f5,f6,f7,f8⟩:=Aj ad;have a7:Below w1 w1 w3:=ah.trans (c0.mono b7);have hM:=Vv.map_any mt (by omega) w3;have a5:Hid (R=Ck.bind (Ck.need (Vv.mpT mt).2.2 p 35) λ _=>Ck.bind (Ck.asked (C2,pa) (Vv.mpT mt).1) λ x=>.inl (CS.mk k ms (mk == 1) 0 [x] [] [])):=ax.out.symm;generalize Vv.mpT mt=mp at *;obtain⟨av,cj,c9⟩:=mp;simp only at a5 hM;clear ax a9 c6;go_wp2_with fail;refine hM.mono ?_;rintro e w4 ⟨rfl,al⟩;clear hM bx c7 z0 z1 z2 z3 z4 z5 z6 z7 z8 f0 f1 f2 f3 f4 f5 f6 f7 f8;have a3:Below w1 w1 w4:=a7.trans (al.mono a7.size);have bv:=a7.size;have ci:=al.size;obtain⟨bc,-⟩:=bcell a3;have bp:=(bc w 8 (by omega)).trans d8;have aw:Below w w w4:=a8.trans (a3.mono (by omega));cases c9
 .have a0:Hid (Ax w R (.panicked (Ag p 35)) w4):=by rw[a5.out];exact⟨rfl,aw⟩
  have hN:=Ap p 35 w4;clear a5;go_wp2_with fail;refine hN.mono ?_;rintro e w7 ⟨rfl,rfl⟩;exact⟨rfl,a0.out⟩
 have hN:=Aw p 35 w4;replace a5:Hid (R=Ck.bind (Ck.asked (C2,pa) av) λ x=>.inl (CS.mk k ms (mk == 1) 0 [x] [] [])):=a5.out;have c4:=(bc w 5 (by omega)).trans d5;have q0:=(bc g og hg).trans u0;have q1:=(bc g (og+1) hg).trans u1;have q2:=(bc g (og+2) hg).trans u2;have q3:=(bc g (og+3) hg).trans u3;have q4:=(bc g (og+4) hg).trans u4;have q5:=(bc g (og+5) hg).trans u5;have q6:=(bc g (og+6) hg).trans u6;have q7:=(bc g (og+7) hg).trans u7;have cl:g<w4:=by have:=a3.size;omega
 have bg:=hA w4 a3 av;clear d0 d1 c3 bt d4 d5 d6 d7 d8 u0 u1 u2 u3 u4 u5 u6 u7 hA bc;generalize Ck.asked (C2,pa) av=D at *;go_wp2_with fail;refine hN.mono ?_;rintro e w7 ⟨rfl,ca⟩;obtain rfl:=ca.symm;clear hN;go_wp2_with fail;refine bg.mono ?_;rintro e w5 hP;clear bg q0 q1 q2 q3 q4 q5 q6 q7 c4 bp;rcases D with⟨k2,o2,n2,t2,s2,y2,a4⟩ | ⟨a,er⟩
 rotate_left
 .obtain⟨hm,ak⟩:=hP;obtain rfl:=hm;have a0:Ax w R (.panicked (Ag a er)) w5:=by rw[a5.out];exact⟨rfl,aw.trans (ak.mono aw.size)⟩
  exact⟨rfl,a0⟩
 obtain⟨sl2,row2,rfl,aq,bj,ak⟩:=hP.inl;obtain⟨a2,c2,rfl,-,-⟩:=aq.val;have br:=ak.size;clear hP;obtain⟨w8,bf⟩:∃w8,w5.alloc (.cells #[iv k2,iv o2,iv n2,strV t2,iv s2,strV y2,.slice a2 a4.length c2,iv 0] 48)=w8:=⟨_,rfl⟩;have au:Below w5 w5 w8:=by rw[<-bf];exact (AF _ _).alloc (AD _) _
 have af:Below w4 w4 w8:=ak.trans (au.mono br);have b0:Below w3 w3 w8:=al.trans (af.mono al.size);have aj:=(b0.block _ l3).trans a6;obtain⟨z0,z1,z2,z3,z4,z5,z6,z7,z8,f0,f1,f2,f3,f4,f5,f6,f7,f8⟩:=Aj aj;have l8:w2<w8.heap.size:=(AB aj).1;obtain⟨w9,ai⟩:∃w9,w8.setCell ⟨w2,5,none⟩ (sL w5 0 1 1)=w9:=⟨_,rfl⟩;have az:w9.heap[w2.heap.size]?=some (.cells #[iv k,sE,iv ms,.bool (mk == 1),iv 0,sL w5 0 1 1,sZ,sZ,iv 0] 46 (0,0)):=by rw[<-ai];simp[World.setCell,Array.getElem?_modify,aj]
 have am:Below w1 w1 w8:=a3.trans (af.mono a3.size);have ae:Below w1 w1 w9:=by rw[<-ai];exact am.setCell (p:=⟨w2,5,none⟩) b7 _
 have b4:=(ae.block _ l1).trans c8;obtain⟨y0,y1,cm,y3,y4,y5,y6,y7,y8,-⟩:=Aj az;obtain⟨r0,r1,r2,r3,r4,r5,r6,r7,r8,t0,t1,cc,t3,t4,t5,t6,t7,t8⟩:=Aj b4;have l9:w2<w9.heap.size:=(AB az).1;have bq:w0<w9.heap.size:=(AB b4).1;have ag:Hid (w9=w8.heap.size):=by show _=_;rw[<-ai];simp[World.setCell]
 have a0:Ax w R (.returned (.agg #[iv k,sE,iv ms,.bool (mk == 1),iv 0,sL w5 0 1 1,sZ,sZ,iv 0])) (A6 w9 w0 (iv k) sE (iv ms) (.bool (mk == 1)) (iv 0) (sL w5 0 1 1) sZ sZ (iv 0)):=by
  rw[a5.out];have bw:=ag.out;have ba:∀{n:Nat} {wx:World},w2<n->wx<=w8.heap.size->(∀j,n<=j->j<wx.heap.size->w8.heap[j]?=wx.heap[j]?)->Since (From n) wx (A6 w9 w0 (iv k) sE (iv ms) (.bool (mk == 1)) (iv 0) (sL w5 0 1 1) sZ sZ (iv 0)):=λ {n wx} hn h1 h2=>⟨by rw[Bb,bw];exact h1,λ j h3 h4=>by
   have h5:n<=j:=h3;rw[Au (by omega),<-ai,Below.heap_setCell _ _ _ _ (by show j≠w2.heap.size;omega)];exact h2 j h3 h4⟩
  have ay:∀{n:Nat} {wx:World},w<=n->∀j,From n j->j<wx.heap.size->From w j:=λ {n wx} hn j hj _=>AP hn hj
  have bh:=ba (n:=w4.heap.size) (wx:=w5) (by omega) au.size (λ j _ hj=>au.block j hj);have ab:SlRow (From w5) w8 8 (sL w5 0 1 1) 1 [iv k2,iv o2,iv n2,strV t2,iv s2,strV y2,.slice a2 a4.length c2,iv 0]:=by rw[<-bf];exact El (AD _)
  have bs:=ba (n:=w5.heap.size) (wx:=w8) (by omega) (AD _) (λ j _ hj=>rfl);exact⟨⟨_,rfl,Gl ((ab.since bs).base' (ay (by omega))) (Ka (C7 ((aq.since bh).base' (ay (by omega))) ((bj.since bh).base (ay (by omega))))) BE Aq.nil BE Aq.nil⟩,Bs (a8.trans (ae.mono (by omega))) (by omega) _ _ _ _ _ _ _ _ _ ⟩
 clear a5 aq bj b4 az aj a6 ag;go_wp2_with fail;exact bodyPost_ret (by simp[results,results142,go_sem,bq,r0,r1,r2,r3,r4,r5,r6,r7,r8]) rfl a0
theorem Aq1{x:Px.Ex}(hE:EOk x){n:AQ}{c:Ck.Cx}{B:AS}{row:AR}(hc:CkAt w b mb c)(b4:CxOk c)(hr:SlRow B w 8 s1 1 row)(ha:Ai B w [x] row)(b2 b3:Option Addr)(m2 m3 d2 d3:Nat) :
  AA 141 #[pt b 0,.agg (stA 2 n s1 (.slice b2 m2 d2) (.slice b3 m3 d3) p)] w λ e w'=>Ax w (Ck.bind (Ck.targ c.env n p) λ m=>Ck.bind (Ck.asked (Ck.cE c x,Ck.plc x) m.type) λ x=>.inl (CS.mk 2 m.slot (m.kind == 1) 0 [x] [] [])) e w':=by
 obtain⟨k,Hk⟩:∃k:Nat,Hid (2=k):=⟨_,rfl⟩;rw[Hk.out];obtain⟨w0,w1,c0,bv,l0,l1,c8,a6,ce,bb,c4⟩:=D5 w k n s1 (.slice b2 m2 d2) (.slice b3 m3 d3) p;have b0:=hr.since (Since.of_below a6);have ay:=ha.since (Since.of_below a6);have ax:=hc.keep a6;have hT:=Hy ax k n s1 (.slice b2 m2 d2) (.slice b3 m3 d3) p;obtain⟨g,og,cap,ka,oa,na,ta,aa,pa,c9,bq,rfl,bi,hg,rfl,⟨u0,u1,u2,u3,u4,u5,u6,u7⟩,al,b7⟩:=Bd (args:=[x]) b0 ay rfl;have hA:=λ w' (hb:Below w1 w1 w') ty=>B5 hE rfl (ax.keep hb) b4 (al.since (Since.of_below hb)) (b7.since (Since.of_below hb)) ty
 obtain⟨c7,bh,rfl,-,-⟩:=al.val;obtain⟨d0,d1,bw,bp,d4,d5,d6,d7,d8,-⟩:=Aj bb;have a7:∀m,Ck.targ c.env n p=.inl m->m.type.length<=1000:=λ m=>Mh b4.env
 obtain⟨R,HR⟩:∃R:Ck.R CS,Hid ((Ck.bind (Ck.targ c.env n p) λ m=>Ck.bind (Ck.asked (Ck.cE c (.mk ka oa na ta aa pa),pa) m.type) λ x=>.inl (CS.mk k m.slot (m.kind == 1) 0 [x] [] []))=R):=⟨_,rfl⟩;show Calls _ _ _ _ λ e w'=>Ax w (Ck.bind (Ck.targ c.env n p) λ m=>Ck.bind (Ck.asked (Ck.cE c (.mk ka oa na ta aa pa),pa) m.type) λ x=>.inl (CS.mk k m.slot (m.kind == 1) 0 [x] [] [])) e w'
 rw[HR.out];have aq:=HR;clear HR Hk;generalize Ck.targ c.env n p=C at *;generalize Ck.cE c (.mk ka oa na ta aa pa)=C2 at *;have i0:(0:Int)<1:=by omega
 have i1:((1:Int) == 1)=true:=rfl;have ca:([Px.Ex.mk ka oa na ta aa pa]:List Px.Ex).length=1:=rfl;clear hc hr ha hE b0 ay ax al b7 bb;simp only[length_cons,length_nil,Nat.zero_add] at *;go_enter func141,ntmps141;go_wp2_with fail;refine hT.mono ?_;rintro e w2 hP;clear hT c0 bv;rcases C with⟨mk,ms,mt⟩ | ⟨a,er⟩
 rotate_left
 .obtain⟨hm,af⟩:=hP;obtain rfl:=hm;have a0:Ax w R (.panicked (Ag a er)) w2:=by rw[<-aq.out];exact⟨rfl,a6.trans (af.mono (by omega))⟩
  exact⟨rfl,a0⟩
 obtain⟨rfl,af⟩:=hP;have c1:mt.length<=1000:=a7 _ rfl;have az:=af.size;obtain⟨wz,w3,bt,c3,bu,bg,bk,c6,a5,a9⟩:=Jm w2 (iv k) sE (iv ms) (.bool (mk == 1)) (iv 0) sZ sZ sZ (iv 0);have lz:w2<wz.heap.size:=by omega
 have l3:w2<w3.heap.size:=by omega
 clear bg bk;obtain⟨z0,z1,z2,z3,z4,z5,z6,z7,z8,f0,f1,f2,f3,f4,f5,f6,f7,f8⟩:=Aj a9;have a3:Below w1 w1 w3:=af.trans (bu.mono az);have au:Hid (R=Ck.bind (Ck.asked (C2,pa) mt) λ x=>.inl (CS.mk k ms (mk == 1) 0 [x] [] [])):=aq.out.symm;clear aq a7 c1;have bj:Below w3 w3 w3:=AF _ _;have b5:Below w w w3:=a6.trans (a3.mono (by omega));have br:=a3.size;obtain⟨bc,-⟩:=bcell a3;have bx:=(bc w 5 (by omega)).trans d5;have q0:=(bc g og hg).trans u0;have q1:=(bc g (og+1) hg).trans u1;have q2:=(bc g (og+2) hg).trans u2;have q3:=(bc g (og+3) hg).trans u3;have q4:=(bc g (og+4) hg).trans u4;have q5:=(bc g (og+5) hg).trans u5;have q6:=(bc g (og+6) hg).trans u6;have q7:=(bc g (og+7) hg).trans u7;have cc:g<w3:=by omega
 have b9:=hA w3 a3 mt;clear d0 d1 bw bp d4 d5 d6 d7 d8 u0 u1 u2 u3 u4 u5 u6 u7 hA bc;generalize Ck.asked (C2,pa) mt=D at *;go_wp2_with fail;refine b9.mono ?_;rintro e w5 hP;clear b9 q0 q1 q2 q3 q4 q5 q6 q7 bx bt c3 z0 z1 z2 z3 z4 z5 z6 z7 z8 f0 f1 f2 f3 f4 f5 f6 f7 f8;rcases D with⟨k2,o2,n2,t2,s2,y2,a4⟩ | ⟨a,er⟩
 rotate_left
 .obtain⟨hm,ai⟩:=hP;obtain rfl:=hm;have a0:Ax w R (.panicked (Ag a er)) w5:=by rw[au.out];exact⟨rfl,b5.trans (ai.mono b5.size)⟩
  exact⟨rfl,a0⟩
 obtain⟨sl2,row2,rfl,ak,bf,ai⟩:=hP.inl;obtain⟨a2,c2,rfl,-,-⟩:=ak.val;have bn:=ai.size;clear hP;obtain⟨w8,b8⟩:∃w8,w5.alloc (.cells #[iv k2,iv o2,iv n2,strV t2,iv s2,strV y2,.slice a2 a4.length c2,iv 0] 48)=w8:=⟨_,rfl⟩;have am:Below w5 w5 w8:=by rw[<-b8];exact (AF _ _).alloc (AD _) _
 have ad:Below w3 w3 w8:=ai.trans (am.mono bn);have ah:=(ad.block _ l3).trans a5;obtain⟨z0,z1,z2,z3,z4,z5,z6,z7,z8,f0,f1,f2,f3,f4,f5,f6,f7,f8⟩:=Aj ah;have l8:w2.heap.size<w8.heap.size:=(AB ah).1;obtain⟨w9,ag⟩:∃w9,w8.setCell ⟨w2,5,none⟩ (sL w5 0 1 1)=w9:=⟨_,rfl⟩;have av:w9.heap[w2.heap.size]?=some (.cells #[iv k,sE,iv ms,.bool (mk == 1),iv 0,sL w5 0 1 1,sZ,sZ,iv 0] 46 (0,0)):=by rw[<-ag];simp[World.setCell,Array.getElem?_modify,ah]
 have aj:Below w1 w1 w8:=a3.trans (ad.mono a3.size);have ab:Below w1 w1 w9:=by rw[<-ag];exact aj.setCell (p:=⟨w2,5,none⟩) az _
 have aw:=(ab.block _ l1).trans c4;obtain⟨y0,y1,cd,y3,y4,y5,y6,y7,y8,-⟩:=Aj av;obtain⟨r0,r1,r2,r3,r4,r5,r6,r7,r8,t0,t1,c5,t3,t4,t5,t6,t7,t8⟩:=Aj aw;have l9:w2<w9.heap.size:=(AB av).1;have bl:w0<w9.heap.size:=(AB aw).1;have ae:Hid (w9=w8.heap.size):=by show _=_;rw[<-ag];simp[World.setCell]
 have a0:Ax w R (.returned (.agg #[iv k,sE,iv ms,.bool (mk == 1),iv 0,sL w5 0 1 1,sZ,sZ,iv 0])) (A6 w9 w0 (iv k) sE (iv ms) (.bool (mk == 1)) (iv 0) (sL w5 0 1 1) sZ sZ (iv 0)):=by
  rw[au.out];have bs:=ae.out;have b6:∀{n:Nat} {wx:World},w2<n->wx<=w8.heap.size->(∀j,n<=j->j<wx.heap.size->w8.heap[j]?=wx.heap[j]?)->Since (From n) wx (A6 w9 w0 (iv k) sE (iv ms) (.bool (mk == 1)) (iv 0) (sL w5 0 1 1) sZ sZ (iv 0)):=λ {n wx} hn h1 h2=>⟨by rw[Bb,bs];exact h1,λ j h3 h4=>by
   have h5:n<=j:=h3;rw[Au (by omega),<-ag,Below.heap_setCell _ _ _ _ (by show j≠w2.heap.size;omega)];exact h2 j h3 h4⟩
  have ar:∀{n:Nat} {wx:World},w<=n->∀j,From n j->j<wx.heap.size->From w j:=λ {n wx} hn j hj _=>AP hn hj
  have ba:=b6 (n:=w3.heap.size) (wx:=w5) (by omega) am.size (λ j _ hj=>am.block j hj);have a8:SlRow (From w5) w8 8 (sL w5 0 1 1) 1 [iv k2,iv o2,iv n2,strV t2,iv s2,strV y2,.slice a2 a4.length c2,iv 0]:=by rw[<-b8];exact El (AD _)
  have bo:=b6 (n:=w5.heap.size) (wx:=w8) (by omega) (AD _) (λ j _ hj=>rfl);exact⟨⟨_,rfl,Gl ((a8.since bo).base' (ar (by omega))) (Ka (C7 ((ak.since ba).base' (ar (by omega))) ((bf.since ba).base (ar (by omega))))) BE Aq.nil BE Aq.nil⟩,Bs (a6.trans (ab.mono (by omega))) (by omega) _ _ _ _ _ _ _ _ _ ⟩
 clear au ak bf aw av ah a5 ae;go_wp2_with fail;exact bodyPost_ret (by simp[results,results141,go_sem,bl,r0,r1,r2,r3,r4,r5,r6,r7,r8]) rfl a0
theorem Aj4{x y:Px.Ex}(hE:EOk x)(bw:EOk y){n:AQ}{c:Ck.Cx}{B:AS}{row:AR}(hc:CkAt w b mb c)(bg:CxOk c)(hr:SlRow B w 8 s1 2 row)(ha:Ai B w [x,y] row)(b2 b3:Option Addr)(m2 m3 d2 d3:Nat) :
  AA 141 #[pt b 0,.agg (stA 2 n s1 (.slice b2 m2 d2) (.slice b3 m3 d3) p)] w λ e w'=>Ax w (Ck.bind (Ck.targ c.env n p) λ m=>Ck.bind (Ck.need (Ck.within m.type).2.2 p 35) λ _=>Ck.bind (Ck.asked (Ck.cE c x,Ck.plc x) (Ck.within m.type).1) λ x=>Ck.bind (Ck.asked (Ck.cE c y,Ck.plc y) (Ck.within m.type).2.1) λ y=>.inl (CS.mk 2 m.slot (m.kind == 1) 0 [x,y] [] [])) e w':=by
 obtain⟨k,Hk⟩:∃k:Nat,Hid (2=k):=⟨_,rfl⟩;rw[Hk.out];obtain⟨w0,w1,cw,ct,l0,l1,dh,aj,dr,c8,d9⟩:=D5 w k n s1 (.slice b2 m2 d2) (.slice b3 m3 d3) p;have bf:=hr.since (Since.of_below aj);have b8:=ha.since (Since.of_below aj);have b7:=hc.keep aj;have hT:=Hy b7 k n s1 (.slice b2 m2 d2) (.slice b3 m3 d3) p;obtain⟨g,og,cap,ka,oa,na,ta,aa,pa,di,cl,rfl,bc,hg,rfl,⟨u0,u1,u2,u3,u4,u5,u6,u7⟩,bb,c1⟩:=Bd (args:=[x,y]) bf b8 rfl;obtain⟨g',de,cg,kb,ob,nb,tb,ab,pb,dm,co,e,-,-,rfl,⟨v0,v1,v2,v3,v4,v5,v6,v7⟩,bq,c5⟩:=Ek (args:=[_,y]) bf b8 rfl;simp only[Value.slice.injEq,Option.some.injEq,Addr.mk.injEq,and_true] at e;obtain⟨⟨rfl,rfl⟩,-,rfl⟩:=e;simp only[length_cons,length_nil,Nat.zero_add] at bc;have hA:=λ w' (hb:Below w1 w1 w') ty=>B5 hE rfl (b7.keep hb) bg (bb.since (Since.of_below hb)) (c1.since (Since.of_below hb)) ty
 have bt:=λ w' (hb:Below w1 w1 w') ty=>B5 bw rfl (b7.keep hb) bg (bq.since (Since.of_below hb)) (c5.since (Since.of_below hb)) ty
 obtain⟨bi,af,rfl,-,-⟩:=bb.val;obtain⟨bo,ag,rfl,-,-⟩:=bq.val;obtain⟨d0,d1,cu,cj,d4,d5,d6,d7,d8,-⟩:=Aj c8;have al:∀m,Ck.targ c.env n p=.inl m->m.type.length<=1000:=λ m=>Mh bg.env
 obtain⟨R,HR⟩:∃R:Ck.R CS,Hid ((Ck.bind (Ck.targ c.env n p) λ m=>Ck.bind (Ck.need (Ck.within m.type).2.2 p 35) λ _=>Ck.bind (Ck.asked (Ck.cE c (.mk ka oa na ta aa pa),pa) (Ck.within m.type).1) λ x=>Ck.bind (Ck.asked (Ck.cE c (.mk kb ob nb tb ab pb),pb) (Ck.within m.type).2.1) λ y=>.inl (CS.mk k m.slot (m.kind == 1) 0 [x,y] [] []))=R):=⟨_,rfl⟩;show Calls _ _ _ _ λ e w'=>Ax w (Ck.bind (Ck.targ c.env n p) λ m=>Ck.bind (Ck.need (Ck.within m.type).2.2 p 35) λ _=>Ck.bind (Ck.asked (Ck.cE c (.mk ka oa na ta aa pa),pa) (Ck.within m.type).1) λ x=>Ck.bind (Ck.asked (Ck.cE c (.mk kb ob nb tb ab pb),pb) (Ck.within m.type).2.1) λ y=>.inl (CS.mk k m.slot (m.kind == 1) 0 [x,y] [] [])) e w'
 rw[HR.out];have bj:=HR;clear HR Hk;generalize Ck.targ c.env n p=C at *;generalize Ck.cE c (.mk ka oa na ta aa pa)=C2 at *;generalize Ck.cE c (.mk kb ob nb tb ab pb)=C4 at *;have i0:(0:Int)<2:=by omega
 have i1:(1:Int)<2:=by omega
 have i2:((2:Int) == 1)=false:=rfl;have dk:([Px.Ex.mk ka oa na ta aa pa,.mk kb ob nb tb ab pb]:List Px.Ex).length=2:=rfl;clear hc hr ha hE bw bf b8 b7 bb c1 bq c5 c8;simp only[length_cons,length_nil,Nat.zero_add] at *;go_enter func141,ntmps141;go_wp2_with fail;refine hT.mono ?_;rintro e w2 hP;clear hT cw ct;rcases C with⟨mk,ms,mt⟩ | ⟨a,er⟩
 rotate_left
 .obtain⟨hm,b0⟩:=hP;obtain rfl:=hm;have a0:Ax w R (.panicked (Ag a er)) w2:=by rw[<-bj.out];exact⟨rfl,aj.trans (b0.mono (by omega))⟩
  exact⟨rfl,a0⟩
 obtain⟨rfl,b0⟩:=hP;have cy:mt.length<=1000:=al _ rfl;have bu:=b0.size;obtain⟨wz,w3,cq,cz,cr,ca,cc,dd,ae,ar⟩:=Jm w2 (iv k) sE (iv ms) (.bool (mk == 1)) (iv 0) sZ sZ sZ (iv 0);have lz:w2<wz.heap.size:=by omega
 have l3:w2<w3.heap.size:=by omega
 clear ca cc;obtain⟨z0,z1,z2,z3,z4,z5,z6,z7,z8,f0,f1,f2,f3,f4,f5,f6,f7,f8⟩:=Aj ar;have a8:Below w1 w1 w3:=b0.trans (cr.mono bu);have hM:=Hv mt (by omega) w3;have a6:Hid (R=Ck.bind (Ck.need (Ck.within mt).2.2 p 35) λ _=>Ck.bind (Ck.asked (C2,pa) (Ck.within mt).1) λ x=>Ck.bind (Ck.asked (C4,pb) (Ck.within mt).2.1) λ y=>.inl (CS.mk k ms (mk == 1) 0 [x,y] [] [])):=bj.out.symm;have k5:=((bcell a8).1 w 5 (by omega)).trans d5;generalize Ck.within mt=mp at *;obtain⟨az,b4,da⟩:=mp;simp only at a6 hM;clear bj al cy;go_wp2_with fail;refine hM.mono ?_;rintro e w4 ⟨rfl,b6⟩;clear hM cq cz z0 z1 z2 z3 z4 z5 z6 z7 z8 f0 f1 f2 f3 f4 f5 f6 f7 f8 k5;have a3:Below w1 w1 w4:=a8.trans (b6.mono a8.size);have cm:=a8.size;have dl:=b6.size;have ce:=((bcell a3).1 w 8 (by omega)).trans d8;have aq:Below w w w4:=aj.trans (a3.mono (by omega));cases da
 .have a0:Hid (Ax w R (.panicked (Ag p 35)) w4):=by rw[a6.out];exact⟨rfl,aq⟩
  have hN:=Ap p 35 w4;clear a6;go_wp2_with fail;refine hN.mono ?_;rintro e w7 ⟨rfl,rfl⟩;exact⟨rfl,a0.out⟩
 have hN:=Aw p 35 w4;replace a6:Hid (R=Ck.bind (Ck.asked (C2,pa) az) λ x=>Ck.bind (Ck.asked (C4,pb) b4) λ y=>.inl (CS.mk k ms (mk == 1) 0 [x,y] [] [])):=a6.out;go_wp2_with fail;refine hN.mono ?_;rintro e w7 ⟨rfl,db⟩;obtain rfl:=db.symm;clear hN ce;have hS:∀w',Below w4 w4 w'->(w'.cell? ⟨w,5,none⟩=sL g og 2 cap/\w'.cell? ⟨g,og,none⟩=iv ka/\w'.cell? ⟨g,og+1,none⟩=iv oa/\w'.cell? ⟨g,og+2,none⟩=iv na/\w'.cell? ⟨g,og+3,none⟩=strV ta/\w'.cell? ⟨g,og+4,none⟩=iv 0/\w'.cell? ⟨g,og+5,none⟩=sE/\w'.cell? ⟨g,og+6,none⟩=some (.slice bi aa.length af)/\w'.cell? ⟨g,og+7,none⟩=iv pa/\w'.cell? ⟨g,og+8,none⟩=iv kb/\w'.cell? ⟨g,og+9,none⟩=iv ob/\w'.cell? ⟨g,og+10,none⟩=iv nb/\w'.cell? ⟨g,og+11,none⟩=strV tb/\w'.cell? ⟨g,og+12,none⟩=iv 0/\w'.cell? ⟨g,og+13,none⟩=sE/\w'.cell? ⟨g,og+14,none⟩=some (.slice bo ab.length ag)/\w'.cell? ⟨g,og+15,none⟩=iv pb):=λ w' hb=>by
  obtain⟨bd,-⟩:=bcell (a3.trans (hb.mono a3.size));exact⟨(bd _ _ (by omega)).trans d5,(bd _ _ hg).trans u0,(bd _ _ hg).trans u1,(bd _ _ hg).trans u2,(bd _ _ hg).trans u3,(bd _ _ hg).trans u4,(bd _ _ hg).trans u5,(bd _ _ hg).trans u6,(bd _ _ hg).trans u7,(bd _ _ hg).trans v0,(bd _ _ hg).trans v1,(bd _ _ hg).trans v2,(bd _ _ hg).trans v3,(bd _ _ hg).trans v4,(bd _ _ hg).trans v5,(bd _ _ hg).trans v6,(bd _ _ hg).trans v7⟩
 have c3:=hA w4.drew a3.drew az;have c6:=λ w' (hb:Below w4 w4 w')=>bt w' (a3.trans (hb.mono a3.size)) b4
 generalize Ck.asked (C2,pa) az=D at *;generalize Ck.asked (C4,pb) b4=E at *;clear hA bt;go_wp2_with fail;refine Vv.wpE_begin (S:=λ w'=>w'.cell? ⟨w,5,none⟩=sL g og 2 cap/\w'.cell? ⟨g,og,none⟩=iv ka/\w'.cell? ⟨g,og+1,none⟩=iv oa/\w'.cell? ⟨g,og+2,none⟩=iv na/\w'.cell? ⟨g,og+3,none⟩=strV ta/\w'.cell? ⟨g,og+4,none⟩=iv 0/\w'.cell? ⟨g,og+5,none⟩=sE/\w'.cell? ⟨g,og+6,none⟩=some (.slice bi aa.length af)/\w'.cell? ⟨g,og+7,none⟩=iv pa/\w'.cell? ⟨g,og+8,none⟩=iv kb/\w'.cell? ⟨g,og+9,none⟩=iv ob/\w'.cell? ⟨g,og+10,none⟩=iv nb/\w'.cell? ⟨g,og+11,none⟩=strV tb/\w'.cell? ⟨g,og+12,none⟩=iv 0/\w'.cell? ⟨g,og+13,none⟩=sE/\w'.cell? ⟨g,og+14,none⟩=some (.slice bo ab.length ag)/\w'.cell? ⟨g,og+15,none⟩=iv pb) (N:=λ j=>decide (j<16)) (by kernel_rfl) ?_;have a5:=hS w4.drew (AF _ _).drew;refine Aa 40 [16] 0 (pt b 0) a5 ?_;refine Aa 41 [16] 1 (pt w 5) a5 ?_;refine Aa 42 [16] 2 (sL g og 2 cap) a5 ?_;refine Aa 43 [16] 3 (pt g og) a5 ?_;refine Aa 44 [16] 4 (.agg (exA ka oa na ta (.slice bi aa.length af) pa)) a5 ?_;refine Aa 45 [16] 5 (strV az) a5 ?_;refine Aa 47 [16] 7 (pt b 0) a5 ?_;refine Aa 48 [16] 8 (pt w 5) a5 ?_;refine Aa 49 [16] 9 (sL g og 2 cap) a5 ?_;refine Aa 50 [16] 10 (pt g (og+8)) a5 ?_;refine Aa 51 [16] 11 (.agg (exA kb ob nb tb (.slice bo ab.length ag) pb)) a5 ?_;refine Aa 52 [16] 12 (strV b4) a5 ?_
 refine Ah 6 λ K hK=>?_
 go_simp;refine c3.mono ?_;rintro e w5 hP;replace hP:Af w4 D e w5:=hP.of (AF _ _).drew;clear c3 d0 d1 cu cj d4 d5 d6 d7 d8 u0 u1 u2 u3 u4 u5 u6 u7 v0 v1 v2 v3 v4 v5 v6 v7 a5;rcases D with⟨k2,o2,n2,t2,s2,y2,a9⟩ | ⟨a,er⟩
 rotate_left
 .obtain⟨hm,ai⟩:=hP;obtain rfl:=hm;have a0:Ax w R (.panicked (Ag a er)) w5:=by rw[a6.out];exact⟨rfl,aq.trans (ai.mono aq.size)⟩
  exact⟨rfl,a0⟩
 obtain⟨sl2,row2,rfl,ba,c9,ai⟩:=hP.inl;obtain⟨a2,c2,rfl,-,-⟩:=ba.val;have ch:=ai.size;refine hK _ _ (λ _=>hS w5 ai) ?_;clear hK K hP
 try simp only[aP]
 have bv:=c6 w5 ai;refine Ah 13 λ K hK=>?_
 go_simp;refine bv.mono ?_;rintro e w6 hP;clear bv c6;have c0:Below w w w5:=aq.trans (ai.mono aq.size);rcases E with⟨k4,o4,n4,t4,s4,y4,ad⟩ | ⟨a,er⟩
 rotate_left
 .obtain⟨hm,aw⟩:=hP;obtain rfl:=hm;have a0:Ax w R (.panicked (Ag a er)) w6:=by rw[a6.out];exact⟨rfl,c0.trans (aw.mono c0.size)⟩
  exact⟨rfl,a0⟩
 obtain⟨dj,cv,rfl,bp,bs,aw⟩:=hP.inl;obtain⟨a4,c4,rfl,-,-⟩:=bp.val;have cd:=aw.size;have ah:Below w4 w4 w6:=ai.trans (aw.mono ch);refine hK _ _ (λ _=>hS w6 ah) ?_;clear hK K hP
 try simp only[aP]
 obtain⟨w8,bk⟩:∃w8,w6.alloc (.cells #[iv k2,iv o2,iv n2,strV t2,iv s2,strV y2,.slice a2 a9.length c2,iv 0,iv k4,iv o4,iv n4,strV t4,iv s4,strV y4,.slice a4 ad.length c4,iv 0] 48)=w8:=⟨_,rfl⟩;have ay:Below w6 w6 w8:=by rw[<-bk];exact (AF _ _).alloc (AD _) _
 have a7:Below w4 w4 w8:=ah.trans (ay.mono ah.size);refine Ah 14 λ K hK=>?_
 go_simp;refine hK _ _ (λ _=>hS w8 a7) ?_;clear hK K
 try simp only[aP]
 refine Ah 15 λ K hK=>?_
 go_simp;refine hK _ _ (λ _=>hS w8 a7) ?_;clear hK K
 try simp only[aP]
 have bn:Below w3 w3 w8:=b6.trans (a7.mono b6.size);have b5:=(bn.block _ l3).trans ae;obtain⟨z0,z1,z2,z3,z4,z5,z6,z7,z8,f0,f1,f2,f3,f4,f5,f6,f7,f8⟩:=Aj b5;have l8:w2<w8.heap.size:=(AB b5).1;obtain⟨w9,ax⟩:∃w9,w8.setCell ⟨w2,5,none⟩ (sL w6 0 2 2)=w9:=⟨_,rfl⟩;have bl:w9.heap[w2.heap.size]?=some (.cells #[iv k,sE,iv ms,.bool (mk == 1),iv 0,sL w6 0 2 2,sZ,sZ,iv 0] 46 (0,0)):=by rw[<-ax];simp[World.setCell,Array.getElem?_modify,b5]
 have b9:Below w1 w1 w8:=a3.trans (a7.mono a3.size);have av:Below w1 w1 w9:=by rw[<-ax];exact b9.setCell (p:=⟨w2,5,none⟩) bu _
 have br:=(av.block _ l1).trans d9;refine Ah 16 λ K hK=>?_
 go_simp;refine hK _ _ (λ h=>by cases h) ?_;clear hK K
 try simp only[aP]
 refine Vv.wpE_done (by kernel_rfl) ?_;clear z0 z1 z2 z3 z4 z5 z6 z7 z8 f0 f1 f2 f3 f4 f5 f6 f7 f8;obtain⟨y0,y1,dq,y3,df,y5,y6,y7,y8,-⟩:=Aj bl;obtain⟨r0,r1,r2,r3,r4,r5,r6,r7,r8,t0,t1,dc,t3,dn,t5,t6,t7,t8⟩:=Aj br;have l9:w2<w9.heap.size:=(AB bl).1;have cf:w0<w9.heap.size:=(AB br).1;have a0:Ax w R (.returned (.agg #[iv k,sE,iv ms,.bool (mk == 1),iv 0,sL w6 0 2 2,sZ,sZ,iv 0])) (A6 w9 w0 (iv k) sE (iv ms) (.bool (mk == 1)) (iv 0) (sL w6 0 2 2) sZ sZ (iv 0)):=by
  rw[a6.out];have cp:w9=w8.heap.size:=by rw[<-ax];simp[World.setCell]
  have bh:∀{n:Nat} {wx:World},w2<n->wx<=w8.heap.size->(∀j,n<=j->j<wx.heap.size->w8.heap[j]?=wx.heap[j]?)->Since (From n) wx (A6 w9 w0 (iv k) sE (iv ms) (.bool (mk == 1)) (iv 0) (sL w6 0 2 2) sZ sZ (iv 0)):=λ {n wx} hn h1 h2=>⟨by rw[Bb,cp];exact h1,λ j h3 h4=>by
   have h5:n<=j:=h3;rw[Au (by omega),<-ax,Below.heap_setCell _ _ _ _ (by show j≠w2.heap.size;omega)];exact h2 j h3 h4⟩
  have au:∀{n:Nat} {wx:World},w<=n->∀j,From n j->j<wx.heap.size->From w j:=λ {n wx} hn j hj _=>AP hn hj
  have ak:Below w5 w5 w8:=aw.trans (ay.mono cd);have c7:=bh (n:=w4.heap.size) (wx:=w5) (by omega) ak.size (λ j _ hj=>ak.block j hj);have bx:=bh (n:=w5.heap.size) (wx:=w6) (by omega) ay.size (λ j _ hj=>ay.block j hj);have am:SlRow (From w6) w8 8 (sL w6 0 2 2) 2 [iv k2,iv o2,iv n2,strV t2,iv s2,strV y2,.slice a2 a9.length c2,iv 0,iv k4,iv o4,iv n4,strV t4,iv s4,strV y4,.slice a4 ad.length c4,iv 0]:=by rw[<-bk];exact L9 (AD _)
  have ci:=bh (n:=w6.heap.size) (wx:=w8) (by omega) (AD _) (λ j _ hj=>rfl);exact⟨⟨_,rfl,Gl ((am.since ci).base' (au (by omega))) (Ax5 (C7 ((ba.since c7).base' (au (by omega))) ((c9.since c7).base (au (by omega)))) (C7 ((bp.since bx).base' (au (by omega))) ((bs.since bx).base (au (by omega))))) BE Aq.nil BE Aq.nil⟩,Bs (aj.trans (av.mono (by omega))) (by omega) _ _ _ _ _ _ _ _ _ ⟩
 have e9:Hid (w8.setCell ⟨w2,5,none⟩ (sL w6 0 2 2)=w9):=ax;clear a6 ba c9 bp bs br bl b5 ae hS bk;simp only[Exit.inBlock,Exit.then];refine ‹∀(a:Act) (w:World),_->_› _ _ ?_;go_wp2_with fail;exact bodyPost_ret (by simp[results,results141,go_sem,cf,r0,r1,r2,r3,r4,r5,r6,r7,r8]) rfl a0
theorem CkS.fm{k:Ck.Kx}{env:Ck.Env}{ls:List (List UInt8)}{lv:Value}{X:AS}(h:CkS n0 b mb v0 ss fs k env ls lv w)(f:Fm X w w')(hX:∀j,X j->n0<=j/\lv.ownBlock≠some j):CkS n0 b mb v0 ss fs k env ls lv w':=
 ⟨(f.block b (by have:=h.hb;have:=h.sz;omega) (λ e=>by have:=(hX _ e).1;have:=h.hb;omega)).trans h.blk,h.hds.since (f.since (λ j hj e=>by have:=(hX _ e).1;have:=hj.1;omega)),h.env.since (f.block mb h.env.lt (λ e=>by have:=(hX _ e).1;have:=h.hm;omega)),h.loc.since (λ j hj=>f.block j (h.loc.lt hj).2 (λ e=>(hX j e).2 hj)),h.hb,h.hm,h.bm,AP h.sz f.size⟩
theorem Fm.set9(w:World)(g:Nat)(x0 x1 x2 x3 x4 x5 x6 x7 x8:Value):Fm (λ j=>j=g) w (A6 w g x0 x1 x2 x3 x4 x5 x6 x7 x8):=by
 have h:=Bs (AF 0 w) (AO g) x0 x1 x2 x3 x4 x5 x6 x7 x8;exact⟨h.os,h.tape,h.output,h.size,λ j _ h=>Au h _ _ _ _ _ _ _ _ _ ⟩
def Br(n0 b mb cb nb:Nat)(v0 ss fs:Value)(k:Ck.Kx)(env:Ck.Env)(lv nv:Value)(names:List (List UInt8))(w:World)(r:Ck.R Ck.St1)(e:Ending)(w':World):Prop:=
 match r with
 | .inl (x,env',ls')=>∃lv' nv' more cs,e=.returned (.agg cs.toArray)/\Ch (λ j=>w.heap.size<=j/\lv'.ownBlock≠some j/\nv'.ownBlock≠some j) w' x cs/\env'=env ++ more/\CkS n0 b mb v0 ss fs k env' ls' lv' w'/\Sc n0 b cb nb nv' (names ++ more.map Prod.fst) w'/\Apart lv' nv' cb nb/\Fm (Iv b mb nb lv nv) w w'/\(∀j,lv'.ownBlock=some j->lv.ownBlock=some j\/w.heap.size<=j)/\(∀j,nv'.ownBlock=some j->nv.ownBlock=some j\/w.heap.size<=j)
 | .inr (a,er)=>e=.panicked (Ag a er)/\Fm (Iv b mb nb lv nv) w w'
theorem Kq{env:Ck.Env}{ls:List (List UInt8)}{kind:Nat}{ty:AQ}{r:Ck.Env × List (List UInt8)}(h:Ck.loc env ls x p kind ty=.inl r):r.1=env ++ [(x,⟨kind,ls.length,ty⟩)]:=by
 obtain⟨e,h1,h⟩:=Ao h;obtain⟨_,-,h⟩:=Ao h;obtain⟨_,-,h1⟩:=Ao h1;cases h1;cases h;rfl
theorem Aq2{x:Px.Ex}(hE:EOk x){n:AQ}{cb nb:Nat}{lv nv:Value}{k:Ck.Kx}{env:Ck.Env}{ls names:List (List UInt8)}(h:CkS n0 b mb v0 ss fs k env ls lv w)(ho:KOk k env)(hs:Sc n0 b cb nb nv names w)(bg:Apart lv nv cb nb)(hl:ls.length<=32)(ca:names.length<=100000){B:AS}{row:AR}(hr:SlRow B w 8 s1 1 row)(ha:Ai B w [x] row)(b2 b3:Option Addr)(m2 m3 d2 d3:Nat) :
  AA 140 #[pt b 0,.agg (stA 1 n s1 (.slice b2 m2 d2) (.slice b3 m3 d3) p),.func (.func 112) #[] #[pt cb 0,pt nb 0]] w λ e w'=>Br n0 b mb cb nb v0 ss fs k env lv nv names w (Ck.bind (Ck.cE (k.at env) x) λ x=>Ck.bind (Ck.loc env ls n p 3 x.type) λ e=>.inl (CS.mk 1 ls.length false 0 [x] [] [],e.1,e.2)) e w':=by
 obtain⟨kk,Hk⟩:∃kk:Nat,Hid (1=kk):=⟨_,rfl⟩;have bj:Hid ((Ck.bind (Ck.cE (k.at env) x) λ x=>Ck.bind (Ck.loc env ls n p 3 x.type) λ e=>.inl (CS.mk 1 ls.length false 0 [x] [] [],e.1,e.2))=(Ck.bind (Ck.cE (k.at env) x) λ x=>Ck.bind (Ck.loc env ls n p 3 x.type) λ e=>.inl (CS.mk kk ls.length false 0 [x] [] [],e.1,e.2):Ck.R Ck.St1)):=by rw[<-Hk.out];rfl
 rw[bj.out];have af:Hid (stA 1 n s1 (.slice b2 m2 d2) (.slice b3 m3 d3) p=stA kk n s1 (.slice b2 m2 d2) (.slice b3 m3 d3) p):=by rw[<-Hk.out];rfl
 rw[af.out];clear bj af Hk;obtain⟨w0,w1,c5,c3,l0,l1,ch,a8,cp,bl,c8⟩:=D5 w kk n s1 (.slice b2 m2 d2) (.slice b3 m3 d3) p;have bc:=hr.since (Since.of_below a8);have b9:=ha.since (Since.of_below a8);have h1:=h.keep a8;obtain⟨g,og,cap,ka,oa,na,ta,aa,pa,c1,az,rfl,bq,hg,rfl,⟨u0,u1,u2,u3,u4,u5,u6,u7⟩,av,bh⟩:=Bd (args:=[x]) bc b9 rfl;have hC:=hE ka oa na ta aa pa rfl w1 b mb (k.at env) B c1 az h1.at ho.cx av bh;obtain⟨cg,bp,rfl,-,-⟩:=av.val;obtain⟨d0,d1,c4,bw,d4,d5,d6,d7,d8,-⟩:=Aj bl;have cc:cb<w:=(AB hs.cbk).1;have b6:nb<w:=(AB hs.nbk).1;have cl:b<w:=by have:=h.hb;have:=h.sz;omega
 have cf:mb<w:=by have:=h.hm;have:=h.sz;omega
 have hT:∀j,w.heap.size<=j->¬Iv b mb nb lv nv j:=λ j hj=>by
  rintro (e | e | e | e | e)
  .omega
  .omega
  .omega
  .have:=(h.loc.lt e).2;omega
  .have:=(hs.own.lt e).2;omega
 obtain⟨R,HR⟩:∃R:Ck.R Ck.St1,Hid ((Ck.bind (Ck.cE (k.at env) (.mk ka oa na ta aa pa)) λ x=>Ck.bind (Ck.loc env ls n p 3 x.type) λ e=>.inl (CS.mk kk ls.length false 0 [x] [] [],e.1,e.2))=R):=⟨_,rfl⟩;rw[HR.out];generalize Ck.cE (k.at env) (.mk ka oa na ta aa pa)=C at *;have i0:(0:Int)<1:=by omega
 have cm:([Px.Ex.mk ka oa na ta aa pa]:List Px.Ex).length=1:=rfl;clear hr ha hE bc b9 h1 av bh;simp only[length_cons,length_nil,Nat.zero_add] at *;go_enter func140,ntmps140;go_wp2_with fail;refine hC.mono ?_;rintro e w2 hP;clear hC c5 c3;rcases C with⟨k2,o2,n2,t2,s2,y2,a3⟩ | ⟨a,er⟩
 rotate_left
 .obtain⟨hm,aq⟩:=hP;obtain rfl:=hm;have a0:Br n0 b mb cb nb v0 ss fs k env lv nv names w R (.panicked (Ag a er)) w2:=by rw[<-HR.out];exact⟨rfl,BD (a8.trans (aq.mono (by omega)))⟩
  exact⟨rfl,a0⟩
 obtain⟨sl2,row2,rfl,ar,bo,aq⟩:=hP.inl;obtain⟨a2,c2,rfl,-,-⟩:=ar.val;have bu:=aq.size;obtain⟨wz,w3,c0,c6,b4,aj,bs,ce,a4,ae⟩:=Ca w2 (iv k2) (iv o2) (iv n2) (strV t2) (iv s2) (strV y2) (.slice a2 a3.length c2) (iv 0);have lz:w2<wz.heap.size:=by omega
 have l3:w2<w3.heap.size:=by omega
 clear aj bs hP;obtain⟨z0,z1,z2,z3,z4,z5,z6,z7,f0,f1,f2,f3,f4,f5,f6,f7⟩:=Ac ae;obtain⟨q0,q1,q2,q3,q4,q5,q6,q7,-⟩:=Ac a4;have a5:Below w1 w1 w3:=aq.trans (b4.mono bu);have am:Below w w w3:=a8.trans (a5.mono (by omega));have bt:=((bcell a5).1 w 1 (by omega)).trans d1;have bv:=((bcell a5).1 w 8 (by omega)).trans d8;have aj:Sc n0 b cb nb nv names w3:=hs.keep (λ j hj=>am.block j (by rcases hj with rfl | rfl | h;exact cc;exact b6;exact (hs.own.lt h).2));have hL:=Jl (h.keep am) ho.eok aj bg hl ca n p 3 0 y2;have ay:Hid (R=Ck.bind (Ck.loc env ls n p 3 y2) λ e=>.inl (CS.mk kk ls.length false 0 [.mk k2 o2 n2 t2 s2 y2 a3] [] [],e.1,e.2)):=HR.out.symm;have bf:∀r,Ck.loc env ls n p 3 y2=.inl r->r.1=env ++ [(n,⟨3,ls.length,y2⟩)]:=λ r=>Kq
 generalize Ck.loc env ls n p 3 y2=D at *;have c7:=b4.size;clear HR d0 d1 c4 bw d4 d5 d6 d7 d8 u0 u1 u2 u3 u4 u5 u6 u7;have ad:=h.loc;have ah:=hs.own;have cj:=h.sz;clear h ho hs aj;go_wp2_with fail;refine hL.mono ?_;rintro e w4 hP;clear hL c0 c6 z0 z1 z2 z3 z4 z5 z6 z7 f0 f1 f2 f3 f4 f5 f6 f7 q0 q1 q2 q3 q4 q5 q6 q7 bt bv;rcases D with⟨env',ls'⟩ | ⟨a,er⟩
 rotate_left
 .obtain⟨hm,a6⟩:=hP;obtain rfl:=hm;have a0:Br n0 b mb cb nb v0 ss fs k env lv nv names w R (.panicked (Ag a er)) w4:=by rw[ay.out];exact⟨rfl,(Fm.of_below (X:=λ _=>False) am).trans a6 (λ _ _ h=>h.elim) (λ _ _ h=>h)⟩
  exact⟨rfl,a0⟩
 obtain⟨lv',al,rfl,b7,b5,bk,a6,b8,au⟩:=hP;have co:=a6.size;have bb:=(a6.block _ (by omega) (hT _ (AD _))).trans ((a5.block _ (by omega)).trans bl);have a7:=(a6.block _ l3 (hT _ (by omega))).trans a4;have bn:=(a6.block w0 (by omega) (hT _ (by omega))).trans ((a5.block _ (by omega)).trans c8);obtain⟨q0,q1,q2,q3,q4,q5,q6,q7,-⟩:=Ac a7;obtain⟨d0,-⟩:=Aj bb;have l4:w2<w4.heap.size:=by omega
 have ci:w<w4.heap.size:=by omega
 obtain⟨w8,bi⟩:∃w8,w4.alloc (.cells #[iv k2,iv o2,iv n2,strV t2,iv s2,strV y2,.slice a2 a3.length c2,iv 0] 48)=w8:=⟨_,rfl⟩;have ak:Below w4 w4 w8:=by rw[<-bi];exact (AF _ _).alloc (AD _) _
 have aw:=(ak.block w0 (by omega)).trans bn;obtain⟨r0,r1,r2,r3,r4,r5,r6,r7,r8,t0,t1,cd,t3,t4,t5,t6,t7,t8⟩:=Aj aw;have bx:w0.heap.size<w8.heap.size:=(AB aw).1;have a0:Br n0 b mb cb nb v0 ss fs k env lv nv names w R (.returned (.agg #[iv kk,sE,iv ls.length,.bool false,iv 0,sL w4 0 1 1,sZ,sZ,iv 0])) (A6 w8 w0 (iv kk) sE (iv ls.length) (.bool false) (iv 0) (sL w4 0 1 1) sZ sZ (iv 0)):=by
  rw[ay.out];have ax:∀j,lv'.ownBlock=some j->n0<=j/\j<w4.heap.size:=λ j hj=>b7.loc.lt hj
  have ai:∀j,al.ownBlock=some j->n0<=j/\j<w4.heap.size:=λ j hj=>b5.own.lt hj
  have ag:∀j,lv'.ownBlock=some j->j<w.heap.size\/w3.heap.size<=j:=λ j hj=>by
   rcases b8 j hj with e | e
   .exact AI (ad.lt e).2
   .exact AJ e
  have ab:∀j,al.ownBlock=some j->j<w.heap.size\/w3.heap.size<=j:=λ j hj=>by
   rcases au j hj with e | e
   .exact AI (ah.lt e).2
   .exact AJ e
  have b0:Fm (λ j=>j=w0.heap.size) w4 (A6 w8 w0 (iv kk) sE (iv ls.length) (.bool false) (iv 0) (sL w4 0 1 1) sZ sZ (iv 0)):=(Fm.of_below (X:=λ _=>False) ak).trans (Fm.set9 w8 w0 _ _ _ _ _ _ _ _ _ ) (λ _ _ h=>h.elim) (λ _ _ h=>h);have ba:Since (λ j=>w1.heap.size<=j/\j<w2.heap.size) w2 (A6 w8 w0 (iv kk) sE (iv ls.length) (.bool false) (iv 0) (sL w4 0 1 1) sZ sZ (iv 0)):=⟨by rw[Bb];have:=ak.size;omega,λ j hj hl=>by
   rw[Au (by omega)];exact (ak.block j (by omega)).trans ((a6.block j (by omega) (hT j (by omega))).trans (b4.block j hl))⟩
  have a9:SlRow (From w4) w8 8 (sL w4 0 1 1) 1 [iv k2,iv o2,iv n2,strV t2,iv s2,strV y2,.slice a2 a3.length c2,iv 0]:=by rw[<-bi];exact El (AD _)
  have c9:Since (From w4) w8 (A6 w8 w0 (iv kk) sE (iv ls.length) (.bool false) (iv 0) (sL w4 0 1 1) sZ sZ (iv 0)):=⟨by rw[Bb];exact AD _,λ j hj hl=>Au (by have:w4.heap.size<=j:=hj;omega) _ _ _ _ _ _ _ _ _ ⟩;have br:env'=env ++ [(n,⟨3,ls.length,y2⟩)]:=bf _ rfl;have w12:∀j,From w1 j->j<w2.heap.size->(w1.heap.size<=j/\j<w2.heap.size):=λ j h1 h2=>⟨h1,h2⟩
  have wB:∀{wx:World} j,(w1.heap.size<=j/\j<w2.heap.size)->j<wx.heap.size->(w.heap.size<=j/\lv'.ownBlock≠some j/\al.ownBlock≠some j):=λ {wx} j h1 _=>⟨by omega,λ e=>by rcases ag j e with h | h <;> omega,λ e=>by rcases ab j e with h | h <;> omega⟩
  refine⟨lv',al,[(n,⟨3,ls.length,y2⟩)],_,rfl,?_,br,?_,?_,bk,?_,?_,?_⟩
  .exact Gl ((a9.since c9).base' (λ j hj _=>⟨by have:w4.heap.size<=j:=hj;omega,λ e=>by have:=(ax j e).2;have:w4.heap.size<=j:=hj;omega,λ e=>by have:=(ai j e).2;have:w4.heap.size<=j:=hj;omega⟩)) (Ka (C7 (((ar.base' w12).since ba).base' wB) (((bo.base w12).since ba).base wB))) BE Aq.nil BE Aq.nil
  .exact b7.fm b0 (λ j hj=>by subst hj;exact⟨by omega,λ e=>by rcases ag _ e with h | h <;> omega⟩)
  .refine b5.keep (λ j hj=>b0.block j ?_ ?_)
   .rcases hj with rfl | rfl | e
    .omega
    .omega
    .exact (ai j e).2
   .rintro rfl;rcases hj with e | e | e
    .omega
    .omega
    .rcases ab _ e with h | h <;> omega
  .exact ((Fm.of_below (X:=λ _=>False) am).trans a6 (λ _ _ h=>h.elim) (λ _ _ h=>h)).trans b0 (λ _ _ h=>h) (λ j hj e=>by omega)
  .intro j hj;rcases b8 j hj with e | e
   .exact AI e
   .exact AJ (by omega)
  .intro j hj;rcases au j hj with e | e
   .exact AI e
   .exact AJ (by omega)
 clear ay ar bo aw bn bb a7 a4 b7 b5 bk a6 b8 au bf ad ah hT bg;go_wp2_with fail;exact bodyPost_ret (by simp[results,results140,go_sem,bx,r0,r1,r2,r3,r4,r5,r6,r7,r8]) rfl a0
end
section
open Go.RowKit
open Ck (CE CS CF CP Mng)
abbrev Em(b mb:Nat)(lv:Value):Nat->Prop:=λ j=>j=b\/j=mb\/lv.ownBlock=some j
def Hz(n0 b mb:Nat)(v0 ss fs:Value)(k:Ck.Kx)(env:Ck.Env)(lv:Value)(w:World)(r:Ck.R (List CS × Ck.Env × List (List UInt8)))(e:Ending)(w':World):Prop:=
 match r with
 | .inl (xs,_,ls')=>∃lv' a cap,e=.returned (.slice a xs.length cap)/\Ew (λ j=>w.heap.size<=j/\lv'.ownBlock≠some j) w' xs (.slice a xs.length cap)/\CkS n0 b mb v0 ss fs k env ls' lv' w'/\Fm (Em b mb lv) w w'/\(∀j,lv'.ownBlock=some j->lv.ownBlock=some j\/w.heap.size<=j)
 | .inr (a,er)=>e=.panicked (Ag a er)/\Fm (Em b mb lv) w w'
def S2(l:List Px.St):Prop:=∀(n0 b mb:Nat) (v0 ss fs:Value) (k:Ck.Kx) (env:Ck.Env) (ls:List (List UInt8)) (lv sl:Value) (row:AR) (w:World),CkS n0 b mb v0 ss fs k env ls lv w->KOk k env->ls.length<=32->SlRow (Old n0 b mb) w 9 sl l.length row->Av (Old n0 b mb) w l row->AA 77 #[pt b 0,sl] w λ e w'=>Hz n0 b mb v0 ss fs k env lv w (Ck.cSs k env ls l) e w'
def Cu(n0 b mb:Nat)(v0 ss fs:Value)(k:Ck.Kx)(env:Ck.Env)(lv:Value)(w:World)(r:Ck.R Ck.St1)(e:Ending)(w':World):Prop:=
 match r with
 | .inl (x,_,ls')=>∃lv' cs,e=.returned (.agg cs.toArray)/\Ch (λ j=>w.heap.size<=j/\lv'.ownBlock≠some j) w' x cs/\CkS n0 b mb v0 ss fs k env ls' lv' w'/\Fm (Em b mb lv) w w'/\(∀j,lv'.ownBlock=some j->lv.ownBlock=some j\/w.heap.size<=j)
 | .inr (a,er)=>e=.panicked (Ag a er)/\Fm (Em b mb lv) w w'
theorem KOk.more{k:Ck.Kx}{env:Ck.Env}(h:KOk k env)(x:AQ)(m:Mng)(h1:m.kind≠0)(h2:m.type.length<=1000):KOk k (env ++ [(x,m)]):=
 ⟨λ y hy=>by
  rcases mem_append.1 hy with hy | hy
  .exact h.eok y hy
  .simp at hy;subst hy;exact h1,λ y hy=>by
  rcases mem_append.1 hy with hy | hy
  .exact h.elen y hy
  .simp at hy;subst hy;exact h2,h.res,h.pars,h.num,h.cur⟩
theorem Op:∀(env:Ck.Env) (x:AQ),D0 env->(Ck.look env x).kind=0->∀y∈env,y.1≠x
 | [],x,h,h0=>by simp
 | a :: r,x,h,h0=>by
  rw[Ck.look] at h0;intro y hy;by_cases e:a.1=x
  .simp[e] at h0;exact absurd h0 (h a (AC ..))
  .simp[e] at h0;rcases mem_cons.1 hy with rfl | hy
   .exact e
   .exact Op r x (λ z hz=>h z (AH _ hz)) h0 y hy
theorem S3{c:Bool}{er:Nat}{u:Unit}(h:Ck.need c p er=.inl u):c=true:=by
 cases c
 .cases h
 .rfl
theorem S4{env:Ck.Env}{ls:List (List UInt8)}{kind:Nat}{ty:AQ}{r:Ck.Env × List (List UInt8)}(he:D0 env)(h:Ck.loc env ls x p kind ty=.inl r):r.2=ls ++ [ty]/\r.2.length<=32/\∀y∈env,y.1≠x:=by
 obtain⟨e,h1,h⟩:=Ao h;obtain⟨_,h2,h⟩:=Ao h;obtain⟨_,h3,h1⟩:=Ao h1;have h4:=S3 h2;have h5:=S3 h3;cases h;simp at h4 h5;exact⟨rfl,by simp;omega,Op env x he h5.2⟩
end
section
open Go.RowKit
open Ck (CE CS CF CP Mng)
attribute [local go_sem ↓] Go.wp_at_zero Go.wp_at_succ
theorem Aj5{x:Px.Ex}(hE:EOk x){body:List Px.St}(br:S2 body){n:AQ}{lv:Value}{k:Ck.Kx}{env:Ck.Env}{ls:List (List UInt8)}(h:CkS n0 b mb v0 ss fs k env ls lv w)(ho:KOk k env)(hl:ls.length<=32){row ai:AR}(hr:SlRow (Old n0 b mb) w 8 s1 1 row)(ha:Ai (Old n0 b mb) w [x] row)(b2 b3:Option Addr)(m3 d2 d3:Nat)(bp:SlRow (Old n0 b mb) w 9 (.slice b2 body.length d2) body.length ai)(ci:Av (Old n0 b mb) w body ai) :
  AA 144 #[pt b 0,.agg (stA 5 n s1 (.slice b2 body.length d2) (.slice b3 m3 d3) p)] w λ e w'=>Cu n0 b mb v0 ss fs k env lv w (Ck.bind (Ck.asked (Ck.cE (k.at env) x,Ck.plc x) Ck.tInt) λ x=>Ck.bind (Ck.loc env ls n p 4 Ck.tInt) λ e=>Ck.bind (Ck.cSs k e.1 e.2 body) λ a=>.inl (CS.mk 5 ls.length false 0 [x] a.1 [],env,a.2.2)) e w':=by
 obtain⟨kk,Hk⟩:∃kk:Nat,Hid (5=kk):=⟨_,rfl⟩;have cf:Hid ((Ck.bind (Ck.asked (Ck.cE (k.at env) x,Ck.plc x) Ck.tInt) λ x=>Ck.bind (Ck.loc env ls n p 4 Ck.tInt) λ e=>Ck.bind (Ck.cSs k e.1 e.2 body) λ a=>.inl (CS.mk 5 ls.length false 0 [x] a.1 [],env,a.2.2))=(Ck.bind (Ck.asked (Ck.cE (k.at env) x,Ck.plc x) Ck.tInt) λ x=>Ck.bind (Ck.loc env ls n p 4 Ck.tInt) λ e=>Ck.bind (Ck.cSs k e.1 e.2 body) λ a=>.inl (CS.mk kk ls.length false 0 [x] a.1 [],env,a.2.2):Ck.R Ck.St1)):=by rw[<-Hk.out];rfl
 rw[cf.out];have az:Hid (stA 5 n s1 (.slice b2 body.length d2) (.slice b3 m3 d3) p=stA kk n s1 (.slice b2 body.length d2) (.slice b3 m3 d3) p):=by rw[<-Hk.out];rfl
 rw[az.out];clear cf az Hk;obtain⟨bl,bj⟩:∃bl,Hid (body.length=bl):=⟨_,rfl⟩;rw[bj.out] at bp;rw[bj.out];obtain⟨w0,w1,dj,df,l0,l1,e0,ar,e9,cj,dn⟩:=D5 w kk n s1 (.slice b2 bl d2) (.slice b3 m3 d3) p;have bx:=hr.since (Since.of_below ar);have bq:=ha.since (Since.of_below ar);have h1:=h.keep ar;obtain⟨g,og,cap,ka,oa,na,ta,aa,pa,e4,da,rfl,cr,hg,rfl,⟨u0,u1,u2,u3,u4,u5,u6,u7⟩,bc,ca⟩:=Bd (args:=[x]) bx bq rfl;have hA:=B5 hE rfl h1.at ho.cx bc ca Ck.tInt;obtain⟨dy,cq,rfl,-,-⟩:=bc.val;obtain⟨d0,d1,di,d9,d4,d5,d6,d7,d8,-⟩:=Aj cj;have e5:b<w:=by have:=h.hb;have:=h.sz;omega
 have dx:mb<w:=by have:=h.hm;have:=h.sz;omega
 obtain⟨R,HR⟩:∃R:Ck.R Ck.St1,Hid ((Ck.bind (Ck.asked (Ck.cE (k.at env) (.mk ka oa na ta aa pa),pa) Ck.tInt) λ x=>Ck.bind (Ck.loc env ls n p 4 Ck.tInt) λ e=>Ck.bind (Ck.cSs k e.1 e.2 body) λ a=>.inl (CS.mk kk ls.length false 0 [x] a.1 [],env,a.2.2))=R):=⟨_,rfl⟩;show Calls _ _ _ _ λ e w'=>Cu n0 b mb v0 ss fs k env lv w (Ck.bind (Ck.asked (Ck.cE (k.at env) (.mk ka oa na ta aa pa),pa) Ck.tInt) λ x=>Ck.bind (Ck.loc env ls n p 4 Ck.tInt) λ e=>Ck.bind (Ck.cSs k e.1 e.2 body) λ a=>.inl (CS.mk kk ls.length false 0 [x] a.1 [],env,a.2.2)) e w'
 rw[HR.out];generalize Ck.asked (Ck.cE (k.at env) (.mk ka oa na ta aa pa),pa) Ck.tInt=C at *;have i0:(0:Int)<1:=by omega
 have e6:([Px.Ex.mk ka oa na ta aa pa]:List Px.Ex).length=1:=rfl;clear hr ha hE bx bq h1 bc ca;simp only[length_cons,length_nil,Nat.zero_add] at *;go_enter func144,ntmps144;go_wp2_with fail;refine hA.mono ?_;rintro e w2 hP;clear hA dj df;rcases C with⟨k2,o2,n2,t2,s2,y2,a3⟩ | ⟨a,er⟩
 rotate_left
 .obtain⟨hm,b6⟩:=hP;obtain rfl:=hm;have a0:Cu n0 b mb v0 ss fs k env lv w R (.panicked (Ag a er)) w2:=by rw[<-HR.out];exact⟨rfl,BD (ar.trans (b6.mono (by omega)))⟩
  exact⟨rfl,a0⟩
 obtain⟨sl2,row2,rfl,bb,co,b6⟩:=hP.inl;obtain⟨a2,c2,rfl,-,-⟩:=bb.val;have cu:=b6.size;obtain⟨wz,w3,de,dm,c5,cp,ct,dv,ae,ay⟩:=Ca w2 (iv k2) (iv o2) (iv n2) (strV t2) (iv s2) (strV y2) (.slice a2 a3.length c2) (iv 0);have lz:w2<wz.heap.size:=by omega
 have l3:w2<w3.heap.size:=by omega
 clear cp ct hP;obtain⟨z0,z1,z2,z3,z4,z5,z6,z7,f0,f1,f2,f3,f4,f5,f6,f7⟩:=Ac ay;have a7:Below w1 w1 w3:=b6.trans (c5.mono cu);have cy:Below w w w3:=ar.trans (a7.mono (by omega));have e1:=h.sz;have c7:=G3 (n0:=n0) (b:=b) (w:=w3) (by have:=cy.size;omega);have bi:Hid (R=Ck.bind (Ck.loc env ls n p 4 Ck.tInt) λ e=>Ck.bind (Ck.cSs k e.1 e.2 body) λ a=>.inl (CS.mk kk ls.length false 0 [.mk k2 o2 n2 t2 s2 y2 a3] a.1 [],env,a.2.2)):=HR.out.symm;clear HR d0 d1 di d9 d4 d5 d6 d7 d8 u0 u1 u2 u3 u4 u5 u6 u7;go_wp2_with fail;refine c7.mono ?_;rintro e w4 ⟨cb,nb,rfl,c9,e7,e3,b9⟩;clear c7 de dm z0 z1 z2 z3 z4 z5 z6 z7 f0 f1 f2 f3 f4 f5 f6 f7;have ds:=b9.size;have db:=a7.size;have aj:Below w1 w1 w4:=a7.trans (b9.mono a7.size);have bh:Below w w w4:=ar.trans (aj.mono (by omega));have b5:=(aj.block _ (by omega)).trans cj;obtain⟨-,d1,-,-,-,-,-,-,d8,-⟩:=Aj b5;have l4:w<w4.heap.size:=by omega
 have c8:Apart lv sZ cb nb:=⟨λ e=>by have:=(h.loc.lt e).2;omega,λ e=>by have:=(h.loc.lt e).2;omega,λ j _ e=>by cases e⟩;have hL:=Jl (h.keep bh) ho.eok c9 c8 hl (by simp) n p 4 0 Ck.tInt;have c4:∀r,Ck.loc env ls n p 4 Ck.tInt=.inl r->r.1=env ++ [(n,⟨4,ls.length,Ck.tInt⟩)]/\r.2.length<=32/\∀y∈env,y.1≠n:=λ r hr=>⟨Kq hr,(S4 ho.eok hr).2⟩
 generalize Ck.loc env ls n p 4 Ck.tInt=D at *;go_wp2_with fail;refine hL.mono ?_;rintro e w5 hP;clear hL d1 d8;have bo:∀j,j<w.heap.size->Iv b mb nb lv sZ j->Em b mb lv j:=λ j hj e=>by
  rcases e with e | e | e | e | e
  .exact AI e
  .exact AJ (AI e)
  .omega
  .exact AJ (AJ e)
  .cases e
 have hT:∀j,w.heap.size<=j->j<w3.heap.size->¬Iv b mb nb lv sZ j:=λ j hj hj2=>by
  rintro (e | e | e | e | e)
  .omega
  .omega
  .omega
  .have:=(h.loc.lt e).2;omega
  .cases e
 rcases D with⟨env',ls'⟩ | ⟨a,er⟩
 rotate_left
 .obtain⟨hm,ag⟩:=hP;obtain rfl:=hm;have a0:Cu n0 b mb v0 ss fs k env lv w R (.panicked (Ag a er)) w5:=by rw[bi.out];exact⟨rfl,(Fm.of_below (X:=λ _=>False) bh).trans ag (λ _ _ h=>h.elim) bo⟩
  exact⟨rfl,a0⟩
 obtain⟨b7,dr,rfl,cg,ad,b8,ag,b4,dk⟩:=hP;obtain⟨bu,ch,b0⟩:=c4 _ rfl;simp only at bu ch;subst bu;have dc:=ag.size;have bt:=(ag.block _ l4 (hT _ (AD _) (by omega))).trans b5;obtain⟨-,-,-,-,-,-,d6,-⟩:=Aj bt;have l5:w<w5.heap.size:=by omega
 have a5:Fm (Em b mb lv) w w5:=(Fm.of_below (X:=λ _=>False) bh).trans ag (λ _ _ h=>h.elim) bo;have bn:Since (Old n0 b mb) w w5:=a5.since (λ j hj e=>by
  rcases e with e | e | e
  .exact hj.2.1 e
  .exact hj.2.2 e
  .have:=(h.loc.lt e).1;have:=hj.1;omega)
 have hB:=br n0 b mb v0 ss fs k _ ls' b7 (.slice b2 bl d2) ai w5 cg (ho.more n _ (by simp) (by simp[Ck.tInt])) ch (by rw[bj.out];exact bp.since bn) (ci.since bn);have bk:Hid (R=Ck.bind (Ck.cSs k (env ++ [(n,⟨4,ls.length,Ck.tInt⟩)]) ls' body) λ a=>.inl (CS.mk kk ls.length false 0 [.mk k2 o2 n2 t2 s2 y2 a3] a.1 [],env,a.2.2)):=bi.out;generalize Ck.cSs k (env ++ [(n,⟨4,ls.length,Ck.tInt⟩)]) ls' body=E at *;clear bi c4 bp ci;go_wp2_with fail;refine hB.mono ?_;rintro e w6 hP;clear hB d6 br;have a6:∀j,b7.ownBlock=some j->lv.ownBlock=some j\/w4.heap.size<=j:=b4;have aq:∀j,j<w.heap.size->Em b mb b7 j->Em b mb lv j:=λ j hj e=>by
  rcases e with e | e | e
  .exact AI e
  .exact AJ (AI e)
  .rcases a6 j e with e | e
   .exact AJ (AJ e)
   .omega
 have cc:∀j,w.heap.size<=j->j<w3.heap.size->¬Em b mb b7 j:=λ j hj hj2=>by
  rintro (e | e | e)
  .omega
  .omega
  .rcases a6 j e with e | e
   .have:=(h.loc.lt e).2;omega
   .omega
 rcases E with⟨xs,dh,cw⟩ | ⟨a,er⟩
 rotate_left
 .obtain⟨hm,am⟩:=hP;obtain rfl:=hm;have a0:Cu n0 b mb v0 ss fs k env lv w R (.panicked (Ag a er)) w6:=by rw[bk.out];exact⟨rfl,a5.trans am (λ _ _ h=>h) aq⟩
  exact⟨rfl,a0⟩
 obtain⟨a8,ab,au,rfl,cm,ak,am,ax⟩:=hP;have cz:=am.size;have cl:Sc n0 b cb nb dr ([] ++ [n]) w6:=ad.keep (λ j hj=>am.block j (by
  rcases hj with rfl | rfl | e
  .exact (AB ad.cbk).1
  .exact (AB ad.nbk).1
  .exact (ad.own.lt e).2) (by
  have dw:n0<=j:=by
   rcases hj with rfl | rfl | e
   .exact ad.cn
   .exact ad.nn
   .exact (ad.own.lt e).1
  rintro (e | e | e)
  .have:=h.hb;omega
  .have:=h.hm;omega
  .rcases hj with rfl | rfl | e2
   .exact b8.c e
   .exact b8.n e
   .exact b8.v j e e2))
 have c0:=Hx ak.blk ak.env cl h.hm h.bm (λ y hy x hx=>by simp at hx;subst hx;exact b0 y hy);go_wp2_with fail;refine c0.mono ?_;rintro e w7 ⟨rfl,bv,a9⟩;clear c0;have cv:=a9.size;have a4:∀j,w.heap.size<=j->j<w3.heap.size->w7.heap[j]?=w4.heap[j]?:=λ j hj hj2=>(a9.block j (by omega) (by omega)).trans ((am.block j (by omega) (cc j hj hj2)).trans (ag.block j (by omega) (hT j hj hj2)))
 have cd:=(a4 w (AD _) (by omega)).trans b5;have af:=(a4 w2 (by omega) l3).trans ((b9.block _ l3).trans ae);have c6:=(a4 w0 (by omega) (by omega)).trans ((aj.block _ (by omega)).trans dn);obtain⟨q0,q1,q2,q3,q4,q5,q6,q7,-⟩:=Ac af;obtain⟨d0,-⟩:=Aj cd;have l7:w2<w7.heap.size:=by omega
 have e8:w<w7.heap.size:=by omega
 obtain⟨w8,ce⟩:∃w8,w7.alloc (.cells #[iv k2,iv o2,iv n2,strV t2,iv s2,strV y2,.slice a2 a3.length c2,iv 0] 48)=w8:=⟨_,rfl⟩;have aw:Below w7 w7 w8:=by rw[<-ce];exact (AF _ _).alloc (AD _) _
 have bf:=(aw.block w0 (by omega)).trans c6;obtain⟨r0,r1,r2,r3,r4,r5,r6,r7,r8,t0,t1,du,t3,t4,t5,t6,t7,t8⟩:=Aj bf;have dd:w0.heap.size<w8.heap.size:=(AB bf).1;have a0:Cu n0 b mb v0 ss fs k env lv w R (.returned (.agg #[iv kk,sE,iv ls.length,.bool false,iv 0,sL w7 0 1 1,.slice ab xs.length au,sZ,iv 0])) (A6 w8 w0 (iv kk) sE (iv ls.length) (.bool false) (iv 0) (sL w7 0 1 1) (.slice ab xs.length au) sZ (iv 0)):=by
  rw[bk.out];have ah:∀j,a8.ownBlock=some j->lv.ownBlock=some j\/w4.heap.size<=j:=λ j hj=>by
   rcases ax j hj with e | e
   .exact a6 j e
   .exact AJ (by omega)
  have al:∀j,a8.ownBlock=some j->n0<=j/\j<w6.heap.size:=λ j hj=>ak.loc.lt hj
  have c1:∀j,lv.ownBlock=some j->j<w.heap.size:=λ j hj=>(h.loc.lt hj).2
  have dl:CkS n0 b mb v0 ss fs k env cw a8 w7:=⟨(a9.block b (by omega) h.bm).trans ak.blk,ak.hds.since (a9.since (λ j hj e=>hj.2.2 e)),bv,ak.loc.since (λ j hj=>a9.block j (al j hj).2 (λ e=>by have:=(al j hj).1;have:=h.hm;omega)),h.hb,h.hm,h.bm,by omega⟩;have c3:Fm (λ j=>j=w0.heap.size) w7 (A6 w8 w0 (iv kk) sE (iv ls.length) (.bool false) (iv 0) (sL w7 0 1 1) (.slice ab xs.length au) sZ (iv 0)):=(Fm.of_below (X:=λ _=>False) aw).trans (Fm.set9 w8 w0 _ _ _ _ _ _ _ _ _ ) (λ _ _ h=>h.elim) (λ _ _ h=>h);have dz:=aw.size;have bs:Since (λ j=>w1.heap.size<=j/\j<w2.heap.size) w2 (A6 w8 w0 (iv kk) sE (iv ls.length) (.bool false) (iv 0) (sL w7 0 1 1) (.slice ab xs.length au) sZ (iv 0)):=⟨by rw[Bb];omega,λ j hj hl=>by
   rw[Au (by omega)];exact (aw.block j (by omega)).trans ((a4 j (by omega) (by omega)).trans ((b9.block j (by omega)).trans (c5.block j hl)))⟩
  have bw:Since (λ j=>w5.heap.size<=j/\a8.ownBlock≠some j) w6 (A6 w8 w0 (iv kk) sE (iv ls.length) (.bool false) (iv 0) (sL w7 0 1 1) (.slice ab xs.length au) sZ (iv 0)):=⟨by rw[Bb];omega,λ j hj hl=>by
   rw[Au (by omega)];exact (aw.block j (by omega)).trans (a9.block j hl (by omega))⟩
  have av:SlRow (From w7) w8 8 (sL w7 0 1 1) 1 [iv k2,iv o2,iv n2,strV t2,iv s2,strV y2,.slice a2 a3.length c2,iv 0]:=by rw[<-ce];exact El (AD _)
  have dq:Since (From w7) w8 (A6 w8 w0 (iv kk) sE (iv ls.length) (.bool false) (iv 0) (sL w7 0 1 1) (.slice ab xs.length au) sZ (iv 0)):=⟨by rw[Bb];exact AD _,λ j hj hl=>Au (by have:w7.heap.size<=j:=hj;omega) _ _ _ _ _ _ _ _ _ ⟩;have w12:∀j,From w1 j->j<w2.heap.size->(w1.heap.size<=j/\j<w2.heap.size):=λ j h1 h2=>⟨h1,h2⟩
  have wB:∀{wx:World} j,(w1.heap.size<=j/\j<w2.heap.size)->j<wx.heap.size->(w.heap.size<=j/\a8.ownBlock≠some j):=λ {wx} j h1 _=>⟨by omega,λ e=>by
   rcases ah j e with h | h
   .have:=c1 j h;omega
   .omega⟩
  have wI:∀{wx:World} j,(w5.heap.size<=j/\a8.ownBlock≠some j)->j<wx.heap.size->(w.heap.size<=j/\a8.ownBlock≠some j):=λ {wx} j h1 _=>⟨by omega,h1.2⟩
  obtain⟨dt,bg,ba⟩:=cm;refine⟨a8,_,rfl,?_,?_,?_,?_⟩
  .exact Gl ((av.since dq).base' (λ j hj _=>⟨by have:w7.heap.size<=j:=hj;omega,λ e=>by have:=(al j e).2;have:w7.heap.size<=j:=hj;omega⟩)) (Ka (C7 (((bb.base' w12).since bs).base' wB) (((co.base w12).since bs).base wB))) ((bg.since bw).base' wI) ((ba.since bw).base wI) BE Aq.nil
  .exact dl.fm c3 (λ j hj=>by subst hj;exact⟨by omega,λ e=>by
    rcases ah _ e with h | h
    .have:=c1 _ h;omega
    .omega⟩)
  .exact ((a5.trans am (λ _ _ h=>h) aq).trans a9 (λ _ _ h=>h) (λ j _ e=>AJ (AI e))).trans c3 (λ _ _ h=>h) (λ j hj e=>by omega)
  .intro j hj;rcases ah j hj with e | e
   .exact AI e
   .exact AJ (by omega)
 clear bk bb co bf c6 cd af ae cg ak ad cl b8 ag am a9 b4 ax a6 hT cc bo aq c8 h ho a4 cm bv c9 b5 bt bn a5 b0;go_wp2_with fail;exact bodyPost_ret (by simp[results,results144,go_sem,dd,r0,r1,r2,r3,r4,r5,r6,r7,r8]) rfl a0
end
end Go.Proofs.YtpckmjfabiallaaGreatDoor
