/- Texts of ours, joined. -/
import Derived.Test.YtpckmjfabiallaaGreatDoorH14
set_option linter.unusedVariables false
set_option linter.unusedSimpArgs false
set_option maxRecDepth 100000
set_option maxHeartbeats 16000000
namespace Go.Proofs.YtpckmjfabiallaaGreatDoor
variable{b m:Nat}{cs:List Value}{w:World}
open List
open Tryz
section
open Go.RowKit
open Px (opL opX dg lv)
theorem W4{base:Nat}{o n:Int}{t:AQ}{k:Int}{a0:Nat}{l:AQ}{tabs:Nat}(hW:Wr base b l tabs w)(hx:IsGE (λ k=>k<base) w (.mk k o n t []) cs)(hk:k≠1/\k≠2/\k≠3/\k≠6/\k≠7/\k≠12/\k≠13/\k≠14/\k≠15)(ae:a0<=6) :
  AA 156 #[Bh b,.agg cs.toArray,iv a0] w λ r w'=>WPost base b l tabs w (none) r w':=by
 rw[IsGE] at hx;obtain⟨x,p,y,sl,row,rfl,hr,ha⟩:=hx;obtain⟨ao,cap,rfl,hm⟩:=hr.slice;obtain⟨res,a4⟩:∃res:Option (List UInt8),Aside (res=none):=⟨_,show _=_ from rfl⟩;rw[<-a4.out];have q1:(k == 1)=false:=by simpa using hk.1
 have q2:(k == 2)=false:=by simpa using hk.2.1
 have q3:(k == 3)=false:=by simpa using hk.2.2.1
 have q6:(k == 6)=false:=by simpa using hk.2.2.2.1
 have q7:(k == 7)=false:=by simpa using hk.2.2.2.2.1
 have ad:(k == 12)=false:=by simpa using hk.2.2.2.2.2.1
 have aa:(k == 13)=false:=by simpa using hk.2.2.2.2.2.2.1
 have ab:(k == 14)=false:=by simpa using hk.2.2.2.2.2.2.2.1
 have a9:(k == 15)=false:=by simpa using hk.2.2.2.2.2.2.2.2
 clear ha hr hm;have hE:=BB hW (geBox k o n t x y (.slice ao 0 cap) p);have hA:=Cb k o n t x y ao 0 cap p;rw[show nArgs k 0=0 by unfold nArgs;rw[if_neg hk.2.2.2.2.1,if_neg (by omega),if_neg (by omega)]] at hA;clear hW;refine A6 func156 rfl ?_;simp only[ntmps156,size_toArray,length_cons,length_nil,Nat.reduceAdd,Nat.reduceSub,Array.replicate_succ,Array.replicate_zero,push_toArray,append_toArray,nil_append,cons_append]
 go_upto_region 1 with fail
 generalize ((w.alloc (Am b)).alloc (xBox (geBox k o n t x y (.slice ao 0 cap) p)))=w2 at *;generalize w.heap.size=g0 at *
 go_cut [] from 6 to 12 (λ wc=>In base b (eks b g0 (geBox k o n t x y (.slice ao 0 cap) p)) l tabs w wc)
 case first=>
  have l0:g0<w2.heap.size:=hE.lt (q:=(g0,Am b)) (by simp);have l1:g0+1<w2.heap.size:=hE.lt (q:=(g0+1,xBox _)) (by simp;rfl);obtain⟨x0,x1,x2,x3,x4,x5,x6,x7,_⟩:=Ab (hE.kept _ (AC))
  go_region_with (first
   |(go_at_call 178;refine (hA _).mono ?_;rintro e w3 ⟨rfl,a8⟩;have a5:=hE.drew.call a8;have l3:g0+1<w3.heap.size:=a5.lt (q:=(g0+1,xBox _)) (by simp;rfl);obtain⟨y0,y1,y2,y3,y4,y5,y6,y7,_⟩:=Ab (a5.kept _ (AC)))
   |(go_at_call 89;refine (need_ok _).mono ?_;rintro e w4 ⟨rfl,rfl⟩))
  all_goals (go_wp2_with fail;go_meet;exact a5)
 case rest=>
  clear hE hA;have hE:=hcut;have l0:g0<wc.heap.size:=hE.lt (q:=(g0,Am b)) (by simp);have l1:g0+1<wc.heap.size:=hE.lt (q:=(g0+1,xBox _)) (by simp;rfl);have c0:=cell_of_one (hE.kept (g0,Am b) (by simp));obtain⟨x0,x1,x2,x3,x4,x5,x6,x7,_⟩:=Ab (hE.kept _ (AC));have hL:=Db k o n hk.2.2.2.2.2.2.2.2 t x y ao 0 cap p wc;rw[if_neg (by omega)] at hL;have a7:¬(6:Int)<(a0:Int):=by omega
  go_wp2_with fail
  refine hL.mono ?_;rintro e w4 ⟨rfl,a6⟩;have a3:=hE.call a6;clear l0 l1 c0 x0 x1 x2 x3 x4 x5 x6 x7 hL hE hcut a6;have l0:g0<w4.heap.size:=a3.lt (q:=(g0,Am b)) (by simp);have l1:g0+1<w4.heap.size:=a3.lt (q:=(g0+1,xBox _)) (by simp;rfl);have c0:=cell_of_one (a3.kept (g0,Am b) (by simp));obtain⟨x0,x1,x2,x3,x4,x5,x6,x7,_⟩:=Ab (a3.kept _ (AC));clear hk;go_wp2_with fail;refine (need_no _).mono ?_;rintro e w5 ⟨rfl,rfl⟩;exact λ _=>leaveP (show WPost base b l tabs w res _ _ by rw[a4.out];exact⟨rfl,l,tabs,a3.wr,a3.fw⟩)
theorem W5{base:Nat}{o n:Int}{t:AQ}{a c:GE}{a0:Nat}{l:AQ}{tabs:Nat}(hW:Wr base b l tabs w)(hx:IsGE (λ k=>k<base) w (.mk 15 o n t [a,c]) cs)(a6:gL o=0)(a8:a0<=6) :
  AA 156 #[Bh b,.agg cs.toArray,iv a0] w λ r w'=>WPost base b l tabs w (none) r w':=by
 rw[IsGE] at hx;obtain⟨x,p,y,sl,row,rfl,hr,ha⟩:=hx;obtain⟨ao,cap,rfl,hm⟩:=hr.slice;obtain⟨res,a3⟩:∃res:Option (List UInt8),Aside (res=none):=⟨_,show _=_ from rfl⟩;rw[<-a3.out];clear ha hr hm;have hE:=BB hW (geBox 15 o n t x y (.slice ao 2 cap) p);have hA:=Cb 15 o n t x y ao 2 cap p;rw[show nArgs 15 2=2 from rfl] at hA;clear hW;refine A6 func156 rfl ?_;simp only[ntmps156,size_toArray,length_cons,length_nil,Nat.reduceAdd,Nat.reduceSub,Array.replicate_succ,Array.replicate_zero,push_toArray,append_toArray,nil_append,cons_append]
 go_upto_region 1 with fail
 generalize ((w.alloc (Am b)).alloc (xBox (geBox 15 o n t x y (.slice ao 2 cap) p)))=w2 at *;generalize w.heap.size=g0 at *
 go_cut [] from 6 to 12 (λ wc=>In base b (eks b g0 (geBox 15 o n t x y (.slice ao 2 cap) p)) l tabs w wc)
 case first=>
  have l0:g0<w2.heap.size:=hE.lt (q:=(g0,Am b)) (by simp);have l1:g0+1<w2.heap.size:=hE.lt (q:=(g0+1,xBox _)) (by simp;rfl);obtain⟨x0,x1,x2,x3,x4,x5,x6,x7,_⟩:=Ab (hE.kept _ (AC))
  go_region_with (first
   |(go_at_call 178;refine (hA _).mono ?_;rintro e w3 ⟨rfl,a7⟩;have a4:=hE.drew.call a7;have l3:g0+1<w3.heap.size:=a4.lt (q:=(g0+1,xBox _)) (by simp;rfl);obtain⟨y0,y1,y2,y3,y4,y5,y6,y7,_⟩:=Ab (a4.kept _ (AC)))
   |(go_at_call 89;refine (need_ok _).mono ?_;rintro e w4 ⟨rfl,rfl⟩))
  all_goals (go_wp2_with fail;go_meet;exact a4)
 case rest=>
  clear hE hA;have hE:=hcut;have l0:g0<wc.heap.size:=hE.lt (q:=(g0,Am b)) (by simp);have l1:g0+1<wc.heap.size:=hE.lt (q:=(g0+1,xBox _)) (by simp;rfl);have c0:=cell_of_one (hE.kept (g0,Am b) (by simp));obtain⟨x0,x1,x2,x3,x4,x5,x6,x7,_⟩:=Ab (hE.kept _ (AC));have hL:=Mq o n t x y ao 2 cap p wc;rw[if_pos a6] at hL;go_wp2_with fail;refine hL.mono ?_;rintro e w4 ⟨rfl,a5⟩;exact λ _=>leaveP (show WPost base b l tabs w res _ _ by rw[a3.out];exact⟨rfl,l,tabs,(hE.call a5).wr,(hE.call a5).fw⟩)
def bnT(m:Nat)(a c:GE):Option (List UInt8):=(gE a).bind λ x=>(gE c).map λ y=>withinS (Bo (lv m) a) x ++ 32 :: (opX m ++ 32 :: withinS (Bo (opL m+1) c) y)
theorem Ai5(m n:Int)(t:AQ)(a c:GE)(a0:Nat):Bo (a0+1) (.mk 15 m n t [a,c])=decide (gL m<a0+1):=by
 simp[Bo,GE.k,GE.o];rfl
theorem Z1{base:Nat}{n:Int}{t:AQ}{a c:GE}{a0:Nat}{l:AQ}{tabs:Nat}(hW:Wr base b l tabs w)(hx:IsGE (λ k=>k<base) w (.mk 15 m n t [a,c]) cs)(h1:1<=m)(h2:m<=13)(af:Dc base b a)(ag:Dc base b c)(ar:a0<=6) :
  AA 156 #[Bh b,.agg cs.toArray,iv a0] w λ r w'=>WPost base b l tabs w ((bnT m a c).map λ x=>withinS (Bo (a0+1) (.mk 15 m n t [a,c])) x) r w':=by
 rw[IsGE] at hx;obtain⟨x,p,y,sl,row,rfl,hr,ha⟩:=hx;obtain⟨ao,cap,rfl,hm⟩:=hr.slice;obtain⟨res,a5⟩:∃res:Option (List UInt8),Aside (res=(bnT m a c).map λ x=>withinS (Bo (a0+1) (.mk 15 m n t [a,c])) x):=⟨_,show _=_ from rfl⟩;rw[<-a5.out];have ai:gL (m:Int)≠0:=by rw[gL_nat];have:=(S6 m h1 h2).1;omega
 have aa:∀(w':World),FW base b w w'->IsGE (λ k=>k<base) w' (.mk 15 m n t [a,c]) (geBox 15 m n t x y (.slice ao 2 cap) p).toList:=by
  intro w' hF;rw[IsGE];exact⟨x,p,y,_,row,rfl,hr.since hF.since,ha.since hF.since⟩
 clear hr ha hm;have hE:=BB hW (geBox 15 m n t x y (.slice ao 2 cap) p);have hA:=Cb 15 m n t x y ao 2 cap p;rw[show nArgs 15 2=2 from rfl] at hA;clear hW;refine A6 func156 rfl ?_;simp only[ntmps156,size_toArray,length_cons,length_nil,Nat.reduceAdd,Nat.reduceSub,Array.replicate_succ,Array.replicate_zero,push_toArray,append_toArray,nil_append,cons_append]
 go_upto_region 1 with fail
 generalize ((w.alloc (Am b)).alloc (xBox (geBox 15 m n t x y (.slice ao 2 cap) p)))=w2 at *;generalize w.heap.size=g0 at *
 go_cut [] from 6 to 12 (λ wc=>In base b (eks b g0 (geBox 15 m n t x y (.slice ao 2 cap) p)) l tabs w wc)
 case first=>
  have l0:g0<w2.heap.size:=hE.lt (q:=(g0,Am b)) (by simp);have l1:g0+1<w2.heap.size:=hE.lt (q:=(g0+1,xBox _)) (by simp;rfl);obtain⟨x0,x1,x2,x3,x4,x5,x6,x7,_⟩:=Ab (hE.kept _ (AC))
  go_region_with (first
   |(go_at_call 178;refine (hA _).mono ?_;rintro e w3 ⟨rfl,al⟩;have ad:=hE.drew.call al;have l3:g0+1<w3.heap.size:=ad.lt (q:=(g0+1,xBox _)) (by simp;rfl);obtain⟨y0,y1,y2,y3,y4,y5,y6,y7,_⟩:=Ab (ad.kept _ (AC)))
   |(go_at_call 89;refine (need_ok _).mono ?_;rintro e w4 ⟨rfl,rfl⟩))
  all_goals (go_wp2_with fail;go_meet;exact ad)
 case rest=>
  clear hE hA;have hE:=hcut;have l0:g0<wc.heap.size:=hE.lt (q:=(g0,Am b)) (by simp);have l1:g0+1<wc.heap.size:=hE.lt (q:=(g0+1,xBox _)) (by simp;rfl);have c0:=cell_of_one (hE.kept (g0,Am b) (by simp));obtain⟨x0,x1,x2,x3,x4,x5,x6,x7,_⟩:=Ab (hE.kept _ (AC));have hL:=Mq m n t x y ao 2 cap p wc;rw[if_neg ai] at hL;go_wp2_with fail;refine hL.mono ?_;rintro e w4 ⟨rfl,ah⟩;have a6:=hE.call ah;clear l0 l1 c0 x0 x1 x2 x3 x4 x5 x6 x7 hL hE hcut ah;have l0:g0<w4.heap.size:=a6.lt (q:=(g0,Am b)) (by simp);have l1:g0+1<w4.heap.size:=a6.lt (q:=(g0+1,xBox _)) (by simp;rfl);have c0:=cell_of_one (a6.kept (g0,Am b) (by simp));obtain⟨x0,x1,x2,x3,x4,x5,x6,x7,_⟩:=Ab (a6.kept _ (AC));have a3:=Ai5 m n t a c a0;have au:gL (m:Int)=opL m:=gL_nat m;obtain⟨aq,am⟩:=S6 m h1 h2;generalize hgq:gL (m:Int)=q at *;by_cases h5:q<a0+1
  .have ae:(((q - 1:Nat)):Int)<(a0:Int):=by omega
   have a8:Bo (a0+1) (.mk 15 m n t [a,c])=true:=by rw[a3];simpa using h5
   clear a3 h5;go_wp2_with fail;refine (put_l a6.wr [40] (by simp)).mono ?_;rintro e w5 ⟨rfl,l5,ak,h5,aj⟩;have a7:=a6.step h5 aj;clear l0 l1 c0 x0 x1 x2 x3 x4 x5 x6 x7;have l0:g0<w5.heap.size:=a7.lt (q:=(g0,Am b)) (by simp);have l1:g0+1<w5.heap.size:=a7.lt (q:=(g0+1,xBox _)) (by simp;rfl);have c0:=cell_of_one (a7.kept (g0,Am b) (by simp));obtain⟨x0,x1,x2,x3,x4,x5,x6,x7,_⟩:=Ab (a7.kept _ (AC));have hC:=Kk h1 h2 af ag a7.wr (aa w5 a7.fw)
   change Calls _ _ _ _ (λ r w'=>WPost base b l5 tabs w5 (bnT m a c) r w') at hC
   clear aa;rcases hqa:bnT m a c with _ | z
   .rw[hqa] at hC;go_wp2_with fail;refine hC.mono ?_;rintro e w6 ⟨rfl,l6,a4,h6,a9⟩;exact λ _=>leave1P h6 (by simp) (λ l8 w8 h8 hf8=>show WPost base b l tabs w res _ _ by rw[a5.out,hqa];exact⟨rfl,l8,a4,h8,(a7.fw.trans a9).trans hf8⟩)
   .rw[hqa] at hC;go_wp2_with fail;refine hC.mono ?_;rintro e w6 ⟨rfl,l6,ab,h6,a9⟩;go_wp2;exact leave1 rfl h6 (by simp) (λ l8 w8 hw8 h8 hf8=>show WPost base b l tabs w res _ _ by rw[a5.out,hqa,Option.map_some,a8];exact⟨rfl,l8,by simpa [withinS] using (ak.trans ab).trans hw8,h8,(a7.fw.trans a9).trans hf8⟩)
  .have ae:¬(((q - 1:Nat)):Int)<(a0:Int):=by omega
   have a8:Bo (a0+1) (.mk 15 m n t [a,c])=false:=by rw[a3];simpa using h5
   clear a3 h5;have hC:=Kk h1 h2 af ag a6.wr (aa w4 a6.fw)
   change Calls _ _ _ _ (λ r w'=>WPost base b l tabs w4 (bnT m a c) r w') at hC
   clear aa;rcases hqa:bnT m a c with _ | z
   .rw[hqa] at hC;go_wp2_with fail;refine hC.mono ?_;rintro e w6 ⟨rfl,l6,a4,h6,a9⟩;exact λ _=>leaveP (show WPost base b l tabs w res _ _ by rw[a5.out,hqa];exact⟨rfl,l6,a4,h6,a6.fw.trans a9⟩)
   .rw[hqa] at hC;go_wp2_with fail;refine hC.mono ?_;rintro e w6 ⟨rfl,l6,ab,h6,a9⟩;go_wp2;exact leave0 rfl (show WPost base b l tabs w res _ _ by rw[a5.out,hqa,Option.map_some,a8];exact⟨rfl,l6,by simpa [withinS] using ab,h6,a6.fw.trans a9⟩)
theorem As6(args:Array Value)(w:World):(callFunc 182 args).run prog w=.ok (.enter 182 args) w:=enters_of func182 (by kernel_rfl) rfl args w
theorem W1{base:Nat}{o n:Int}{t:AQ}{args:List GE}{a3:Nat}{l:AQ}{tabs:Nat}(hW:Wr base b l tabs w)(hx:IsGE (λ k=>k<base) w (.mk 7 o n t args) cs)(h1:t.length<=maxLen)(hX:∀e∈args,Dc base b e)(aj:a3<=6) :
  AA 156 #[Bh b,.agg cs.toArray,iv a3] w λ r w'=>WPost base b l tabs w (if gName t then (allS (args.map gE)).map λ xs=>t ++ 40 :: (commasS xs ++ [41]) else none) r w':=by
 rw[IsGE] at hx;obtain⟨x,p,y,sl,row,rfl,hr,ha⟩:=hx;obtain⟨ao,cap,rfl,hm⟩:=hr.slice;obtain⟨res,a4⟩:∃res:Option (List UInt8),Aside (res=if gName t then (allS (args.map gE)).map λ xs=>t ++ 40 :: (commasS xs ++ [41]) else none):=⟨_,show _=_ from rfl⟩;rw[<-a4.out];have ad:=hW.lt;unfold maxLen at hm;have hE:=BB hW (geBox 7 o n t x y (.slice ao args.length cap) p);have hA:=Cb 7 o n t x y ao args.length cap p;rw[show nArgs 7 args.length=args.length by simp[nArgs]] at hA;clear hW;refine A6 func156 rfl ?_;simp only[ntmps156,size_toArray,length_cons,length_nil,Nat.reduceAdd,Nat.reduceSub,Array.replicate_succ,Array.replicate_zero,push_toArray,append_toArray,nil_append,cons_append]
 go_upto_region 1 with fail
 generalize ((w.alloc (Am b)).alloc (xBox (geBox 7 o n t x y (.slice ao args.length cap) p)))=w2 at *;generalize w.heap.size=g0 at *
 go_cut [] from 6 to 12 (λ wc=>In base b (eks b g0 (geBox 7 o n t x y (.slice ao args.length cap) p)) l tabs w wc)
 case first=>
  have l0:g0<w2.heap.size:=hE.lt (q:=(g0,Am b)) (by simp);have l1:g0+1<w2.heap.size:=hE.lt (q:=(g0+1,xBox _)) (by simp;rfl);obtain⟨x0,x1,x2,x3,x4,x5,x6,x7,_⟩:=Ab (hE.kept _ (AC))
  go_region_with (first
   |(go_at_call 178;refine (hA _).mono ?_;rintro e w3 ⟨rfl,ag⟩;have aa:=hE.drew.call ag;have l3:g0+1<w3.heap.size:=aa.lt (q:=(g0+1,xBox _)) (by simp;rfl);obtain⟨y0,y1,y2,y3,y4,y5,y6,y7,_⟩:=Ab (aa.kept _ (AC)))
   |(go_at_call 89;refine (need_ok _).mono ?_;rintro e w4 ⟨rfl,rfl⟩))
  all_goals (go_wp2_with fail;go_meet;exact aa)
 case rest=>
  clear hE hA;have hE:=hcut;have l0:g0<wc.heap.size:=hE.lt (q:=(g0,Am b)) (by simp);have l1:g0+1<wc.heap.size:=hE.lt (q:=(g0+1,xBox _)) (by simp;rfl);have c0:=cell_of_one (hE.kept (g0,Am b) (by simp));obtain⟨x0,x1,x2,x3,x4,x5,x6,x7,_⟩:=Ab (hE.kept _ (AC));have hL:=Db 7 o n (by decide) t x y ao args.length cap p wc;rw[if_neg (by decide)] at hL;have ae:¬(6:Int)<(a3:Int):=by omega
  go_wp2_with fail
  refine hL.mono ?_;rintro e w4 ⟨rfl,ab⟩;have a5:=hE.call ab;clear l0 l1 c0 x0 x1 x2 x3 x4 x5 x6 x7 hL hE hcut ab;have l0:g0<w4.heap.size:=a5.lt (q:=(g0,Am b)) (by simp);have l1:g0+1<w4.heap.size:=a5.lt (q:=(g0+1,xBox _)) (by simp;rfl);have c0:=cell_of_one (a5.kept (g0,Am b) (by simp));obtain⟨x0,x1,x2,x3,x4,x5,x6,x7,_⟩:=Ab (a5.kept _ (AC));have hN:=Mx t w4.drew h1;have ai:∀(fn:Fn) (first cap:Array Value) (w:World),(Instr.makeFunc fn first cap).run prog w=.ok (.func fn first cap) w:=λ _ _ _ _=>rfl
  rcases hgn:gName t with _ | _
  .rw[hgn] at hN
   go_upto_region 16 with fail
   go_region_with (go_at_call 91;refine hN.mono ?_;rintro e w5 ⟨rfl,a9⟩;have a0:=a5.drew.call a9;refine skip_way w5 (λ _=>leaveP (show WPost base b l tabs w res _ _ by rw[a4.out,hgn];exact⟨rfl,l,tabs,a0.wr,a0.fw⟩)) ?_)
   all_goals trivial
  .rw[hgn] at hN;have ah:=My hgn
   go_upto_region 16 with fail
   go_cut [] from 53 to 57 (λ wc=>∃l5,Bm l t l5/\In base b (eks b g0 (geBox 7 o n t x y (.slice ao args.length cap) p)) l5 tabs w wc)
   case first=>
    go_region_with (first
     |(go_at_call 91;refine hN.mono ?_;rintro e w5 ⟨rfl,a9⟩;have a0:=a5.drew.call a9;have l5:g0<w5.heap.size:=a0.lt (q:=(g0,Am b)) (by simp);have c5:=cell_of_one (a0.kept (g0,Am b) (by simp)))
     |(go_at_call 60;refine (put_l a0.wr t (by omega)).mono ?_;rintro e w6 ⟨rfl,l6,a8,h6,a6⟩))
    all_goals (go_wp2_with fail;go_meet;exact⟨l6,a8,a0.step h6 a6⟩)
   case rest=>
    clear l0 l1 c0 x0 x1 x2 x3 x4 x5 x6 x7 hN a5;obtain⟨l5,af,a0⟩:=hcut;have l0:g0<wc.heap.size:=a0.lt (q:=(g0,Am b)) (by simp);have l1:g0+1<wc.heap.size:=a0.lt (q:=(g0+1,xBox _)) (by simp;rfl);have c0:=cell_of_one (a0.kept (g0,Am b) (by simp));obtain⟨x0,x1,x2,x3,x4,x5,x6,x7,_⟩:=Ab (a0.kept _ (AC));have hC:=Fl (K:=182) (caps:=#[pt g0 0,pt (g0+1) 0]) (xs:=args.map gE) (Inv:=CallIn base b g0 (geBox 7 o n t x y (.slice ao args.length cap) p) w) a0.wr (by simp;omega) As6 (Ww hr ha hX) (λ _ _ h hf=>h.step hf) ⟨a0.kept (g0,Am b) (by simp),a0.kept _ (AC),ad,a0.fw⟩;rw[length_map] at hC;rcases hqa:allS (args.map gE) with _ | zs
    .rw[hqa] at hC;go_wp2_with fail;refine hC.mono ?_;rintro e w6 ⟨rfl,l6,a7,h6,a6⟩;exact λ _=>leaveP (show WPost base b l tabs w res _ _ by rw[a4.out,hgn,if_pos rfl,hqa];exact⟨rfl,l6,a7,h6,a0.fw.trans a6⟩)
    .rw[hqa] at hC;go_wp2_with fail;refine hC.mono ?_;rintro e w6 ⟨rfl,l6,a8,h6,a6⟩;go_wp2;exact leave0 rfl (show WPost base b l tabs w res _ _ by rw[a4.out,hgn,if_pos rfl,hqa];exact⟨rfl,l6,af.trans a8,h6,a0.fw.trans a6⟩)
theorem Ai3{base:Nat}{o n:Int}{t:AQ}{a c:GE}{a0:Nat}{l:AQ}{tabs:Nat}(hW:Wr base b l tabs w)(hx:IsGE (λ k=>k<base) w (.mk 12 o n t [a,c]) cs)(ai:Dc base b a)(al:Dc base b c)(am:a0<=6) :
  AA 156 #[Bh b,.agg cs.toArray,iv a0] w λ r w'=>WPost base b l tabs w ((gE a).bind λ x=>(gE c).map λ y=>withinS (Bo 7 a) x ++ 91 :: (y ++ [93])) r w':=by
 rw[IsGE] at hx;obtain⟨x,p,y,sl,row,rfl,hr,ha⟩:=hx;obtain⟨ao,cap,rfl,hm⟩:=hr.slice;obtain⟨res,a3⟩:∃res:Option (List UInt8),Aside (res=(gE a).bind λ x=>(gE c).map λ y=>withinS (Bo 7 a) x ++ 91 :: (y ++ [93])):=⟨_,show _=_ from rfl⟩;rw[<-a3.out];have a9:=λ (q:Nat) (e:GE) (w':World) (hq:([a,c]:List GE)[q]?=some e) (hF:FW base b w w')=>Cw hr ha hF hq
 clear hr ha hm;have hE:=BB hW (geBox 12 o n t x y (.slice ao 2 cap) p);have hA:=Cb 12 o n t x y ao 2 cap p;rw[show nArgs 12 2=2 from rfl] at hA;clear hW;refine A6 func156 rfl ?_;simp only[ntmps156,size_toArray,length_cons,length_nil,Nat.reduceAdd,Nat.reduceSub,Array.replicate_succ,Array.replicate_zero,push_toArray,append_toArray,nil_append,cons_append]
 go_upto_region 1 with fail
 generalize ((w.alloc (Am b)).alloc (xBox (geBox 12 o n t x y (.slice ao 2 cap) p)))=w2 at *;generalize w.heap.size=g0 at *
 go_cut [] from 6 to 12 (λ wc=>In base b (eks b g0 (geBox 12 o n t x y (.slice ao 2 cap) p)) l tabs w wc)
 case first=>
  have l0:g0<w2.heap.size:=hE.lt (q:=(g0,Am b)) (by simp);have l1:g0+1<w2.heap.size:=hE.lt (q:=(g0+1,xBox _)) (by simp;rfl);obtain⟨x0,x1,x2,x3,x4,x5,x6,x7,_⟩:=Ab (hE.kept _ (AC))
  go_region_with (first
   |(go_at_call 178;refine (hA _).mono ?_;rintro e w3 ⟨rfl,aj⟩;have aa:=hE.drew.call aj;have l3:g0+1<w3.heap.size:=aa.lt (q:=(g0+1,xBox _)) (by simp;rfl);obtain⟨y0,y1,y2,y3,y4,y5,y6,y7,_⟩:=Ab (aa.kept _ (AC)))
   |(go_at_call 89;refine (need_ok _).mono ?_;rintro e w4 ⟨rfl,rfl⟩))
  all_goals (go_wp2_with fail;go_meet;exact aa)
 case rest=>
  clear hE hA;have hE:=hcut;have l0:g0<wc.heap.size:=hE.lt (q:=(g0,Am b)) (by simp);have l1:g0+1<wc.heap.size:=hE.lt (q:=(g0+1,xBox _)) (by simp;rfl);have c0:=cell_of_one (hE.kept (g0,Am b) (by simp));obtain⟨x0,x1,x2,x3,x4,x5,x6,x7,_⟩:=Ab (hE.kept _ (AC));have hL:=Db 12 o n (by decide) t x y ao 2 cap p wc;rw[if_neg (by decide)] at hL;have ak:¬(6:Int)<(a0:Int):=by omega
  go_wp2_with fail
  refine hL.mono ?_;rintro e w4 ⟨rfl,ag⟩;have a4:=hE.call ag;clear l0 l1 c0 x0 x1 x2 x3 x4 x5 x6 x7 hL hE hcut ag;have l0:g0<w4.heap.size:=a4.lt (q:=(g0,Am b)) (by simp);have l1:g0+1<w4.heap.size:=a4.lt (q:=(g0+1,xBox _)) (by simp;rfl);have c0:=cell_of_one (a4.kept (g0,Am b) (by simp));obtain⟨x0,x1,x2,x3,x4,x5,x6,x7,_⟩:=Ab (a4.kept _ (AC));obtain⟨g,o',u0,u1,u2,u3,u4,u5,u6,u7,rfl,hg,⟨e0,e1,e2,e3,e4,e5,e6,e7⟩,a6⟩:=a9 0 a w4 rfl a4.fw;simp only[Nat.zero_mul,Nat.add_zero] at e0 e1 e2 e3 e4 e5 e6 e7;have hC:=ai 6 l tabs _ w4.drew (by omega) a4.wr.drew (a6.since (Since.drewN _ w4 1));clear a6;rcases hqa:gE a with _ | za
  .rw[hqa] at hC
   go_upto_region 19 with fail
   go_region_with (go_at_call 156;refine hC.mono ?_;rintro e w5 ⟨rfl,l5,a8,h5,ab⟩;refine skip_way w5 (λ _=>leaveP (show WPost base b l tabs w res _ _ by rw[a3.out,hqa];exact⟨rfl,l5,a8,h5,a4.fw.trans (AZ 1 ab)⟩)) ?_)
   all_goals trivial
  .rw[hqa] at hC
   go_upto_region 19 with fail
   go_cut [] from 66 to 71 (λ wc=>∃l5,Bm l (withinS (Bo 7 a) za) l5/\In base b (eks b g0 (geBox 12 o n t x y (sL g o' 2 cap) p)) l5 tabs w wc)
   case first=>
    go_region_with (go_at_call 156;refine hC.mono ?_;rintro e w5 ⟨rfl,l5,ad,h5,ab⟩)
    all_goals (go_wp2_with fail;go_meet;exact⟨l5,ad,a4.step h5 (AZ 1 ab)⟩)
   case rest=>
    clear l0 l1 c0 x0 x1 x2 x3 x4 x5 x6 x7 e0 e1 e2 e3 e4 e5 e6 e7 hC a4 hg;obtain⟨l5,ad,a5⟩:=hcut;have l0:g0<wc.heap.size:=a5.lt (q:=(g0,Am b)) (by simp);have l1:g0+1<wc.heap.size:=a5.lt (q:=(g0+1,xBox _)) (by simp;rfl);have c0:=cell_of_one (a5.kept (g0,Am b) (by simp));obtain⟨x0,x1,x2,x3,x4,x5,x6,x7,_⟩:=Ab (a5.kept _ (AC));obtain⟨g,o',u0,u1,u2,u3,u4,u5,u6,u7,af,hg,⟨e0,e1,e2,e3,e4,e5,e6,e7⟩,a6⟩:=a9 1 c wc rfl a5.fw;simp only[Option.some.injEq,Addr.mk.injEq,and_true] at af;obtain⟨rfl,rfl⟩:=af;simp only[Nat.one_mul,Nat.add_assoc,Nat.reduceAdd] at e0 e1 e2 e3 e4 e5 e6 e7;have hC:=Ii al a5.wr.drew (a6.since (Since.drewN _ wc 1));clear a6;rcases hqc:gE c with _ | zc
    .rw[hqc] at hC
     go_upto_region 20 with fail
     go_region_with (go_at_call 154;refine hC.mono ?_;rintro e w6 ⟨rfl,l6,a7,h6,ae⟩;refine skip_way w6 (λ _=>leaveP (show WPost base b l tabs w res _ _ by rw[a3.out,hqa,hqc];exact⟨rfl,l6,a7,h6,a5.fw.trans (AZ 1 ae)⟩)) ?_)
     all_goals trivial
    .rw[hqc] at hC
     go_upto_region 20 with fail
     go_region_with (go_at_call 154;refine hC.mono ?_;rintro e w6 ⟨rfl,l6,ah,h6,ae⟩)
     all_goals
      go_wp2;exact leave0 rfl (show WPost base b l tabs w res _ _ by rw[a3.out,hqa,hqc];exact⟨rfl,l6,ad.trans ah,h6,a5.fw.trans (AZ 1 ae)⟩)
end
section
open Go.RowKit
open Px (opL opX dg)
theorem W7{base:Nat}{o n:Int}{t:AQ}{a3:Nat}{l:AQ}{tabs:Nat}(hW:Wr base b l tabs w)(hx:IsGE (λ k=>k<base) w (.mk 3 o n t []) cs)(af:a3<=6)(h1:t.length<=maxLen) :
  AA 156 #[Bh b,.agg cs.toArray,iv a3] w λ r w'=>WPost base b l tabs w (if plainB t then some (Ey t) else none) r w':=by
 rw[IsGE] at hx;obtain⟨x,p,y,sl,row,rfl,hr,ha⟩:=hx;obtain⟨ao,cap,rfl,hm⟩:=hr.slice;obtain⟨res,a0⟩:∃res:Option (List UInt8),Aside (res=if plainB t then some (Ey t) else none):=⟨_,show _=_ from rfl⟩;rw[<-a0.out];clear ha hr hm;have hE:=BB hW (geBox 3 o n t x y (.slice ao 0 cap) p);have hA:=Cb 3 o n t x y ao 0 cap p;rw[show nArgs 3 0=0 from rfl] at hA;clear hW;refine A6 func156 rfl ?_;simp only[ntmps156,size_toArray,length_cons,length_nil,Nat.reduceAdd,Nat.reduceSub,Array.replicate_succ,Array.replicate_zero,push_toArray,append_toArray,nil_append,cons_append]
 go_upto_region 1 with fail
 generalize ((w.alloc (Am b)).alloc (xBox (geBox 3 o n t x y (.slice ao 0 cap) p)))=w2 at *;generalize w.heap.size=g0 at *
 go_cut [] from 6 to 12 (λ wc=>In base b (eks b g0 (geBox 3 o n t x y (.slice ao 0 cap) p)) l tabs w wc)
 case first=>
  have l0:g0<w2.heap.size:=hE.lt (q:=(g0,Am b)) (by simp);have l1:g0+1<w2.heap.size:=hE.lt (q:=(g0+1,xBox _)) (by simp;rfl);obtain⟨x0,x1,x2,x3,x4,x5,x6,x7,_⟩:=Ab (hE.kept _ (AC))
  go_region_with (first
   |(go_at_call 178;refine (hA _).mono ?_;rintro e w3 ⟨rfl,ae⟩;have a7:=hE.drew.call ae;have l3:g0+1<w3.heap.size:=a7.lt (q:=(g0+1,xBox _)) (by simp;rfl);obtain⟨y0,y1,y2,y3,y4,y5,y6,y7,_⟩:=Ab (a7.kept _ (AC)))
   |(go_at_call 89;refine (need_ok _).mono ?_;rintro e w4 ⟨rfl,rfl⟩))
  all_goals (go_wp2_with fail;go_meet;exact a7)
 case rest=>
  clear hE hA;have hE:=hcut;have l0:g0<wc.heap.size:=hE.lt (q:=(g0,Am b)) (by simp);have l1:g0+1<wc.heap.size:=hE.lt (q:=(g0+1,xBox _)) (by simp;rfl);have c0:=cell_of_one (hE.kept (g0,Am b) (by simp));obtain⟨x0,x1,x2,x3,x4,x5,x6,x7,_⟩:=Ab (hE.kept _ (AC));have hL:=Db 3 o n (by decide) t x y ao 0 cap p wc;rw[if_neg (by decide)] at hL;have ad:¬(6:Int)<(a3:Int):=by omega
  go_wp2_with fail
  refine hL.mono ?_;rintro e w4 ⟨rfl,a8⟩;have a5:=hE.call a8;clear l0 l1 c0 x0 x1 x2 x3 x4 x5 x6 x7 hL hE hcut a8;have l0:g0<w4.heap.size:=a5.lt (q:=(g0,Am b)) (by simp);have l1:g0+1<w4.heap.size:=a5.lt (q:=(g0+1,xBox _)) (by simp;rfl);have c0:=cell_of_one (a5.kept (g0,Am b) (by simp));obtain⟨x0,x1,x2,x3,x4,x5,x6,x7,_⟩:=Ab (a5.kept _ (AC));have hN:AA 181 #[.string ⟨t.toArray⟩] w4.drew λ e w'=>I3 w4.drew res e w':=by
   rw[a0.out];exact Sx t w4.drew h1
  go_upto_region 12 with fail
  rcases hq:res with _ | z
  .rw[hq] at hN;clear a0
   go_region_with (go_at_call 181;refine hN.mono ?_;rintro e w5 ⟨rfl,a6⟩;have a4:=a5.drew.call a6;refine skip_way w5 (λ _=>leaveP (show WPost base b l tabs w res _ _ by rw[hq];exact⟨rfl,l,tabs,a4.wr,a4.fw⟩)) ?_)
   all_goals trivial
  .rw[hq] at hN;have ab:z.length<=1099511627776:=by
    have:=a0.out;rw[hq] at this;split at this
    .rename_i hpl;simp only[Option.some.injEq] at this;subst this;simp only[plainB,Bool.and_eq_true,decide_eq_true_eq] at hpl;have:=J5 t;simp[Ey];omega
    .cases this
   clear a0
   go_region_with (first
    |(go_at_call 181;refine hN.mono ?_;rintro e w5 ⟨rfl,a6⟩;have a4:=a5.drew.call a6;have l5:g0<w5.heap.size:=a4.lt (q:=(g0,Am b)) (by simp);have c5:=cell_of_one (a4.kept (g0,Am b) (by simp)))
    |(go_at_call 60;refine (put_l a4.wr z ab).mono ?_;rintro e w6 ⟨rfl,l6,aa,h6,a9⟩))
   all_goals
    go_wp2;exact leave0 rfl (show WPost base b l tabs w res _ _ by rw[hq];exact⟨rfl,l6,aa,h6,a4.fw.trans a9⟩)
theorem W6{base:Nat}{o n:Int}{t:AQ}{a3:Nat}{l:AQ}{tabs:Nat}(hW:Wr base b l tabs w)(hx:IsGE (λ k=>k<base) w (.mk 2 o n t []) cs)(af:a3<=6)  :
  AA 156 #[Bh b,.agg cs.toArray,iv a3] w λ r w'=>WPost base b l tabs w (if 0<=n/\n<=1 then some (if n=1 then [116,114,117,101] else [102,97,108,115,101]) else none) r w':=by
 rw[IsGE] at hx;obtain⟨x,p,y,sl,row,rfl,hr,ha⟩:=hx;obtain⟨ao,cap,rfl,hm⟩:=hr.slice;obtain⟨res,a0⟩:∃res:Option (List UInt8),Aside (res=if 0<=n/\n<=1 then some (if n=1 then [116,114,117,101] else [102,97,108,115,101]) else none):=⟨_,show _=_ from rfl⟩;rw[<-a0.out];clear ha hr hm;have hE:=BB hW (geBox 2 o n t x y (.slice ao 0 cap) p);have hA:=Cb 2 o n t x y ao 0 cap p;rw[show nArgs 2 0=0 from rfl] at hA;clear hW;refine A6 func156 rfl ?_;simp only[ntmps156,size_toArray,length_cons,length_nil,Nat.reduceAdd,Nat.reduceSub,Array.replicate_succ,Array.replicate_zero,push_toArray,append_toArray,nil_append,cons_append]
 go_upto_region 1 with fail
 generalize ((w.alloc (Am b)).alloc (xBox (geBox 2 o n t x y (.slice ao 0 cap) p)))=w2 at *;generalize w.heap.size=g0 at *
 go_cut [] from 6 to 12 (λ wc=>In base b (eks b g0 (geBox 2 o n t x y (.slice ao 0 cap) p)) l tabs w wc)
 case first=>
  have l0:g0<w2.heap.size:=hE.lt (q:=(g0,Am b)) (by simp);have l1:g0+1<w2.heap.size:=hE.lt (q:=(g0+1,xBox _)) (by simp;rfl);obtain⟨x0,x1,x2,x3,x4,x5,x6,x7,_⟩:=Ab (hE.kept _ (AC))
  go_region_with (first
   |(go_at_call 178;refine (hA _).mono ?_;rintro e w3 ⟨rfl,ae⟩;have a7:=hE.drew.call ae;have l3:g0+1<w3.heap.size:=a7.lt (q:=(g0+1,xBox _)) (by simp;rfl);obtain⟨y0,y1,y2,y3,y4,y5,y6,y7,_⟩:=Ab (a7.kept _ (AC)))
   |(go_at_call 89;refine (need_ok _).mono ?_;rintro e w4 ⟨rfl,rfl⟩))
  all_goals (go_wp2_with fail;go_meet;exact a7)
 case rest=>
  clear hE hA;have hE:=hcut;have l0:g0<wc.heap.size:=hE.lt (q:=(g0,Am b)) (by simp);have l1:g0+1<wc.heap.size:=hE.lt (q:=(g0+1,xBox _)) (by simp;rfl);have c0:=cell_of_one (hE.kept (g0,Am b) (by simp));obtain⟨x0,x1,x2,x3,x4,x5,x6,x7,_⟩:=Ab (hE.kept _ (AC));have hL:=Db 2 o n (by decide) t x y ao 0 cap p wc;rw[if_neg (by decide)] at hL;have ad:¬(6:Int)<(a3:Int):=by omega
  go_wp2_with fail
  refine hL.mono ?_;rintro e w4 ⟨rfl,a8⟩;have a5:=hE.call a8;clear l0 l1 c0 x0 x1 x2 x3 x4 x5 x6 x7 hL hE hcut a8;have l0:g0<w4.heap.size:=a5.lt (q:=(g0,Am b)) (by simp);have l1:g0+1<w4.heap.size:=a5.lt (q:=(g0+1,xBox _)) (by simp;rfl);have c0:=cell_of_one (a5.kept (g0,Am b) (by simp));obtain⟨x0,x1,x2,x3,x4,x5,x6,x7,_⟩:=Ab (a5.kept _ (AC));have hN:AA 180 #[iv n] w4.drew λ e w'=>I3 w4.drew res e w':=by
   rw[a0.out];exact Ws n w4.drew
  go_upto_region 10 with fail
  rcases hq:res with _ | z
  .rw[hq] at hN;clear a0
   go_region_with (go_at_call 180;refine hN.mono ?_;rintro e w5 ⟨rfl,a6⟩;have a4:=a5.drew.call a6;refine skip_way w5 (λ _=>leaveP (show WPost base b l tabs w res _ _ by rw[hq];exact⟨rfl,l,tabs,a4.wr,a4.fw⟩)) ?_)
   all_goals trivial
  .rw[hq] at hN;have ab:z.length<=1099511627776:=by
    have:=a0.out;rw[hq] at this;split at this
    .simp only[Option.some.injEq] at this;subst this;split <;> simp
    .cases this
   clear a0
   go_region_with (first
    |(go_at_call 180;refine hN.mono ?_;rintro e w5 ⟨rfl,a6⟩;have a4:=a5.drew.call a6;have l5:g0<w5.heap.size:=a4.lt (q:=(g0,Am b)) (by simp);have c5:=cell_of_one (a4.kept (g0,Am b) (by simp)))
    |(go_at_call 60;refine (put_l a4.wr z ab).mono ?_;rintro e w6 ⟨rfl,l6,aa,h6,a9⟩))
   all_goals
    go_wp2;exact leave0 rfl (show WPost base b l tabs w res _ _ by rw[hq];exact⟨rfl,l6,aa,h6,a4.fw.trans a9⟩)
theorem Z2{base:Nat}{o n:Int}{t:AQ}{a3:Nat}{l:AQ}{tabs:Nat}(hW:Wr base b l tabs w)(hx:IsGE (λ k=>k<base) w (.mk 1 o n t []) cs)(af:a3<=6)(h1:n<=9223372036854775807) :
  AA 156 #[Bh b,.agg cs.toArray,iv a3] w λ r w'=>WPost base b l tabs w (if 0<=n then some (dg n.toNat) else none) r w':=by
 rw[IsGE] at hx;obtain⟨x,p,y,sl,row,rfl,hr,ha⟩:=hx;obtain⟨ao,cap,rfl,hm⟩:=hr.slice;obtain⟨res,a0⟩:∃res:Option (List UInt8),Aside (res=if 0<=n then some (dg n.toNat) else none):=⟨_,show _=_ from rfl⟩;rw[<-a0.out];clear ha hr hm;have hE:=BB hW (geBox 1 o n t x y (.slice ao 0 cap) p);have hA:=Cb 1 o n t x y ao 0 cap p;rw[show nArgs 1 0=0 from rfl] at hA;clear hW;refine A6 func156 rfl ?_;simp only[ntmps156,size_toArray,length_cons,length_nil,Nat.reduceAdd,Nat.reduceSub,Array.replicate_succ,Array.replicate_zero,push_toArray,append_toArray,nil_append,cons_append]
 go_upto_region 1 with fail
 generalize ((w.alloc (Am b)).alloc (xBox (geBox 1 o n t x y (.slice ao 0 cap) p)))=w2 at *;generalize w.heap.size=g0 at *
 go_cut [] from 6 to 12 (λ wc=>In base b (eks b g0 (geBox 1 o n t x y (.slice ao 0 cap) p)) l tabs w wc)
 case first=>
  have l0:g0<w2.heap.size:=hE.lt (q:=(g0,Am b)) (by simp);have l1:g0+1<w2.heap.size:=hE.lt (q:=(g0+1,xBox _)) (by simp;rfl);obtain⟨x0,x1,x2,x3,x4,x5,x6,x7,_⟩:=Ab (hE.kept _ (AC))
  go_region_with (first
   |(go_at_call 178;refine (hA _).mono ?_;rintro e w3 ⟨rfl,ae⟩;have a7:=hE.drew.call ae;have l3:g0+1<w3.heap.size:=a7.lt (q:=(g0+1,xBox _)) (by simp;rfl);obtain⟨y0,y1,y2,y3,y4,y5,y6,y7,_⟩:=Ab (a7.kept _ (AC)))
   |(go_at_call 89;refine (need_ok _).mono ?_;rintro e w4 ⟨rfl,rfl⟩))
  all_goals (go_wp2_with fail;go_meet;exact a7)
 case rest=>
  clear hE hA;have hE:=hcut;have l0:g0<wc.heap.size:=hE.lt (q:=(g0,Am b)) (by simp);have l1:g0+1<wc.heap.size:=hE.lt (q:=(g0+1,xBox _)) (by simp;rfl);have c0:=cell_of_one (hE.kept (g0,Am b) (by simp));obtain⟨x0,x1,x2,x3,x4,x5,x6,x7,_⟩:=Ab (hE.kept _ (AC));have hL:=Db 1 o n (by decide) t x y ao 0 cap p wc;rw[if_neg (by decide)] at hL;have ad:¬(6:Int)<(a3:Int):=by omega
  go_wp2_with fail
  refine hL.mono ?_;rintro e w4 ⟨rfl,a8⟩;have a5:=hE.call a8;clear l0 l1 c0 x0 x1 x2 x3 x4 x5 x6 x7 hL hE hcut a8;have l0:g0<w4.heap.size:=a5.lt (q:=(g0,Am b)) (by simp);have l1:g0+1<w4.heap.size:=a5.lt (q:=(g0+1,xBox _)) (by simp;rfl);have c0:=cell_of_one (a5.kept (g0,Am b) (by simp));obtain⟨x0,x1,x2,x3,x4,x5,x6,x7,_⟩:=Ab (a5.kept _ (AC));have hN:AA 61 #[iv n] w4.drew λ e w'=>I3 w4.drew res e w':=by
   rw[a0.out];exact Kg n w4.drew a5.drew.wr.tab h1
  go_upto_region 8 with fail
  rcases hq:res with _ | z
  .rw[hq] at hN;clear a0
   go_region_with (go_at_call 61;refine hN.mono ?_;rintro e w5 ⟨rfl,a6⟩;have a4:=a5.drew.call a6;refine skip_way w5 (λ _=>leaveP (show WPost base b l tabs w res _ _ by rw[hq];exact⟨rfl,l,tabs,a4.wr,a4.fw⟩)) ?_)
   all_goals trivial
  .rw[hq] at hN;have ab:z.length<=1099511627776:=by
    have:=a0.out;rw[hq] at this;split at this
    .simp only[Option.some.injEq] at this;subst this;have:=Zn n.toNat (by omega);omega
    .cases this
   clear a0
   go_region_with (first
    |(go_at_call 61;refine hN.mono ?_;rintro e w5 ⟨rfl,a6⟩;have a4:=a5.drew.call a6;have l5:g0<w5.heap.size:=a4.lt (q:=(g0,Am b)) (by simp);have c5:=cell_of_one (a4.kept (g0,Am b) (by simp)))
    |(go_at_call 60;refine (put_l a4.wr z ab).mono ?_;rintro e w6 ⟨rfl,l6,aa,h6,a9⟩))
   all_goals
    go_wp2;exact leave0 rfl (show WPost base b l tabs w res _ _ by rw[hq];exact⟨rfl,l6,aa,h6,a4.fw.trans a9⟩)
end
section
open Go.RowKit
open Px (opL opX dg lv)
theorem Av1(k o n:Int)(t:AQ):gE (.mk k o n t [])=gKS k o n t [] []:=by rw[gE];simp only[gEs]
theorem As7(k o n:Int)(t:AQ)(a:GE):gE (.mk k o n t [a])=(gE a).bind λ x=>gKS k o n t [a] [x]:=by
 rw[gE];simp only[gEs];rcases gE a with _ | x <;> rfl
theorem Ap0(k o n:Int)(t:AQ)(a c:GE):gE (.mk k o n t [a,c])=(gE a).bind λ x=>(gE c).bind λ y=>gKS k o n t [a,c] [x,y]:=by
 rw[gE];simp only[gEs];rcases gE a with _ | x <;> rcases gE c with _ | y <;> rfl
theorem Qw:∀{l:List (Option (List UInt8))} {xs:List (List UInt8)},allS l=some xs->xs.length=l.length
 | [],xs,h=>by simp[allS] at h;subst h;rfl
 | x :: r,xs,h=>by
  simp only[allS,Option.bind_eq_some_iff,Option.map_eq_some_iff] at h;obtain⟨y,rfl,ys,hy,rfl⟩:=h;simp[Qw hy]
theorem W8{k o n:Int}{t:AQ}{args:List GE}{xs:List (List UInt8)}(hc:xs.length≠nArgs k xs.length):gKS k o n t args xs=none:=by
 unfold gKS;unfold nArgs at hc;by_cases h1:k=1
 .subst h1;have hc:xs.length≠0:=by simpa using hc
  rw[if_pos rfl,if_neg (λ h=>hc h.1)]
 rw[if_neg h1];by_cases h2:k=2
 .subst h2;have hc:xs.length≠0:=by simpa using hc
  rw[if_pos rfl,if_neg (λ h=>hc h.1)]
 rw[if_neg h2];by_cases h3:k=3
 .subst h3;have hc:xs.length≠0:=by simpa using hc
  rw[if_pos rfl,if_neg (λ h=>hc h.1)]
 rw[if_neg h3];by_cases h6:k=6
 .subst h6;have hc:xs.length≠0:=by simpa using hc
  rw[if_pos rfl,if_neg (λ h=>hc h.1)]
 rw[if_neg h6];by_cases h7:k=7
 .subst h7;simp at hc
 rw[if_neg h7];rw[if_neg h7] at hc;by_cases h12:k=12
 .subst h12;rw[if_pos (Or.inl rfl)] at hc;rw[if_pos rfl,if_neg hc]
 rw[if_neg h12];by_cases h13:k=13
 .subst h13;rw[if_neg (by omega),if_pos (Or.inl rfl)] at hc;rw[if_pos rfl,if_neg hc]
 rw[if_neg h13];by_cases h14:k=14
 .subst h14;rw[if_neg (by omega),if_pos (Or.inr rfl)] at hc;rw[if_pos rfl,if_neg hc]
 rw[if_neg h14];by_cases h15:k=15
 .subst h15;rw[if_pos (Or.inr rfl)] at hc;rw[if_pos rfl,if_neg (λ h=>hc h.1)]
 rw[if_neg h15]
theorem Z3{k o n:Int}{t:AQ}{args:List GE}(hc:args.length≠nArgs k args.length):gE (.mk k o n t args)=none:=by
 rw[gE,Op];rcases h:allS (args.map gE) with _ | xs
 .rfl
 .have hl:=Qw h;rw[length_map] at hl;rw[<-hl] at hc;exact W8 hc
theorem S7{k o n:Int}{t:AQ}{args:List GE}(a3:k≠15)(a0:k≠13)(a4:k≠14)(j:Nat):Bo j (.mk k o n t args)=false:=by
 simp[Bo,GE.k,GE.o,a3,a0,a4]
theorem Oq(r:Option (List UInt8)):r.map (withinS false)=r:=by cases r <;> simp[withinS]
theorem S8{base:Nat}{k o n:Int}{t:AQ}{args:List GE}(h1:n<=9223372036854775807)(h2:t.length<=maxLen)(hs:∀e∈args,Dc base b e):Dc base b (.mk k o n t args):=by
 intro least l tabs cs w hle hW hx;by_cases hc':args.length≠nArgs k args.length
 .rw[Z3 hc'];exact S2 hW hx hc'
 have hc:args.length=nArgs k args.length:=by omega
 by_cases k7:k=7
 .subst k7;rw[S7 (by decide) (by decide) (by decide),Oq];have:=W1 hW hx h2 hs hle;have e:gE (.mk 7 o n t args)=if gName t then (allS (args.map gE)).map λ xs=>t ++ 40 :: (commasS xs ++ [41]) else none:=by
   rw[gE,Op];rcases allS (args.map gE) with _ | xs
   .cases gName t <;> rfl
   .simp[gKS]
  rw[e];exact this
 by_cases k12:k=12
 .subst k12;rw[S7 (by decide) (by decide) (by decide),Oq];have hl:args.length=2:=by rw[hc];rfl
  match args,hl,hs,hx with
  | [a,c],_,hs,hx=>
   have:=Ai3 hW hx (hs a (by simp)) (hs c (by simp)) hle;have e:gE (.mk 12 o n t [a,c])=(gE a).bind λ x=>(gE c).map λ y=>withinS (Bo 7 a) x ++ 91 :: (y ++ [93]):=by
    rw[Ap0];rcases gE a with _ | x <;> rcases gE c with _ | y <;> simp[gKS]
   rw[e];exact this
 by_cases k13:k=13
 .subst k13;have hl:args.length=1:=by rw[hc];rfl
  match args,hl,hs,hx with
  | [a],_,hs,hx=>
   have:=W2 hW hx (hs a (by simp)) hle;have e:(gE (.mk 13 o n t [a])).map (withinS (Bo (least+1) (.mk 13 o n t [a])))=(gE a).map λ x=>withinS (Bo (least+1) (.mk 13 o n t [a])) (45 :: withinS (Bo 6 a) x):=by
    rw[As7];rcases gE a with _ | x <;> simp[gKS]
   rw[e];exact this
 by_cases k14:k=14
 .subst k14;have hl:args.length=1:=by rw[hc];rfl
  match args,hl,hs,hx with
  | [a],_,hs,hx=>
   have:=W3 hW hx (hs a (by simp)) hle;have e:(gE (.mk 14 o n t [a])).map (withinS (Bo (least+1) (.mk 14 o n t [a])))=(gE a).map λ x=>withinS (Bo (least+1) (.mk 14 o n t [a])) (33 :: withinS (Bo 6 a) x):=by
    rw[As7];rcases gE a with _ | x <;> simp[gKS]
   rw[e];exact this
 by_cases k15:k=15
 .subst k15;have hl:args.length=2:=by rw[hc];rfl
  match args,hl,hs,hx with
  | [a,c],_,hs,hx=>
   by_cases hop:gL o=0
   .have e:gE (.mk 15 o n t [a,c])=none:=by
     rw[Ap0];rcases gE a with _ | x <;> rcases gE c with _ | y <;> simp[gKS,hop]
    rw[e];exact W5 hW hx hop hle
   .obtain⟨m,rfl,m1,m2⟩:=Zo hop;have:=Z1 hW hx m1 m2 (hs a (by simp)) (hs c (by simp)) hle;have e:gE (.mk 15 m n t [a,c])=bnT m a c:=by
     rw[Ap0,bnT];rw[gL_nat] at hop;rcases gE a with _ | x <;> rcases gE c with _ | y <;> simp[gKS,gL_nat,hop]
    rw[e];exact this
 rw[S7 k15 k13 k14,Oq];have hl:args.length=0:=by rw[hc];unfold nArgs;rw[if_neg k7,if_neg (by omega),if_neg (by omega)]
 match args,hl,hx with
 | [],_,hx=>
  rw[Av1];by_cases k1:k=1
  .subst k1;have:=Z2 hW hx hle h1;rw[show gKS 1 o n t [] []=if 0<=n then some (dg n.toNat) else none by simp[gKS]];exact this
  by_cases k2:k=2
  .subst k2;have:=W6 hW hx hle;rw[show gKS 2 o n t [] []=if 0<=n/\n<=1 then some (if n=1 then [116,114,117,101] else [102,97,108,115,101]) else none by simp[gKS]];exact this
  by_cases k3:k=3
  .subst k3;have:=W7 hW hx hle h2;rw[show gKS 3 o n t [] []=if plainB t then some (Ey t) else none by simp[gKS]];exact this
  by_cases k6:k=6
  .subst k6;have:=W0 hW hx hle h2;rw[show gKS 6 o n t [] []=if gName t then some t else none by simp[gKS]];exact this
  have:=W4 hW hx ⟨k1,k2,k3,k6,k7,k12,k13,k14,k15⟩ hle;rw[show gKS k o n t [] []=none by simp[gKS,k1,k2,k3,k6,k7,k12,k13,k14,k15]];exact this
mutual
theorem Av2{base b:Nat}:∀e:GE,OkE e->Dc base b e
 | .mk k o n t args,h=>by
  rw[OkE] at h;exact S8 h.1 h.2.1 (Z4 args h.2.2)
theorem Z4{base b:Nat}:∀l:List GE,Qp l->∀e∈l,Dc base b e
 | [],_,e,he=>by simp at he
 | a :: r,h,e,he=>by
  rw[Qp] at h;have ha:=Av2 (base:=base) (b:=b) a h.1;have hr:=Z4 (base:=base) (b:=b) r h.2;rcases mem_cons.1 he with rfl | he
  .exact ha
  .exact hr e he
end
end
section
open Go.RowKit
theorem Zv{base:Nat}  {n:AQ} {a:GE} {bo el:List GS} {l:AQ} {tabs:Nat}   (hW:Wr base b l tabs w) (hx:IsGS (λ k=>k<base) w (.mk 4 n [a] bo el) cs) (au:Dc base b a) (hB:Kj base b bo) (hd:tabs+1+D0 bo<=1099511627776) (aq:¬(0:Int)<(el.length:Int)) :
  AA 128 #[Bh b,.agg cs.toArray] w λ r w'=>WPost base b l tabs w (((gE a).bind λ x=>(gBlk (gSts bo (indT tabs)) (indT tabs) bo.isEmpty).map λ y=>x ++ ([32] ++ y)).map λ z=>[105,102,32] ++ z) r w':=by
 obtain⟨res,a4⟩:∃res:Option (List UInt8),Aside (res=((gE a).bind λ x=>(gBlk (gSts bo (indT tabs)) (indT tabs) bo.isEmpty).map λ y=>x ++ ([32] ++ y)).map λ z=>[105,102,32] ++ z):=⟨_,show _=_ from rfl⟩;rw[<-a4.out];rw[IsGS] at hx;obtain⟨x,y,p,f,s1,s2,s3,r1,r2,r3,rfl,a9,ag,a8,al,ab,ah⟩:=hx;obtain⟨a1,q1,rfl,ay⟩:=a9.slice;obtain⟨a2,q2,rfl,ar⟩:=a8.slice;obtain⟨a3,q3,rfl,ax⟩:=ab.slice;have aw:∀w',FW base b w w'->B1 (λ k=>k<base) w' bo (.slice a2 bo.length q2):=λ w' hF=>⟨r2,a8.since hF.since,al.since hF.since⟩
 have b0:∀w',FW base b w w'->B1 (λ k=>k<base) w' el (.slice a3 el.length q3):=λ w' hF=>⟨r3,ab.since hF.since,ah.since hF.since⟩
 have af:=λ (q:Nat) (e:GE) (w':World) (hq:([a]:List GE)[q]?=some e) (hF:FW base b w w')=>Cw a9 ag hF hq
 obtain⟨g,o',u0,u1,u2,u3,u4,u5,u6,u7,rfl,hg,⟨e0,e1,e2,e3,e4,e5,e6,e7⟩,ad⟩:=af 0 a w rfl (AY _ _ _);obtain⟨k1,o1,n1,t1,ae,aa,b1,m1,c1,p1,ak⟩:=ad.shows;simp only[List.cons.injEq,and_true] at ak;obtain⟨rfl,rfl,rfl,rfl,rfl,rfl,rfl,rfl⟩:=ak;simp only[Nat.zero_mul,Nat.add_zero] at e0 e1 e2 e3 e4 e5 e6 e7;have hE:=In.sboxes hW (gsBox 4 n x f y (sL g o' 1 q1) (.slice a2 bo.length q2) (.slice a3 el.length q3) p) #[iv k1,iv o1,iv n1,.string t1,iv ae,.string aa,.slice b1 m1 c1,iv p1];have az:∀w',FW base b w w'->IsGE (λ k=>k<base) w' a [iv k1,iv o1,iv n1,.string t1,iv ae,.string aa,.slice b1 m1 c1,iv p1]:=λ w' hF=>ad.since hF.since
 clear a9 ag a8 al ab ah ay ar hW ad;unfold maxLen at ax;go_enter func128,ntmps128;go_wp2_with fail;refine (need_ok _).mono ?_;rintro e w1 ⟨rfl,rfl⟩;go_wp2_with fail;generalize ((w.alloc (sBox (gsBox 4 n x f y (sL g o' 1 q1) (.slice a2 bo.length q2) (.slice a3 el.length q3) p))).alloc (xBox #[iv k1,iv o1,iv n1,.string t1,iv ae,.string aa,.slice b1 m1 c1,iv p1]))=w2 at *;generalize w.heap.size=g0 at *;have l0:g0<w2.heap.size:=hE.lt (AH _ (AC));have l1:g0+1<w2.heap.size:=hE.lt (AC);obtain⟨x0,x1,x2,x3,x4,x5,x6,x7,_⟩:=Ab (hE.kept _ (AC));obtain⟨z0,z1,z2,z3,z4,z5,z6,z7,z8,_⟩:=Ad (hE.kept _ (AH _ (AC)));refine (put_l hE.wr [105,102,32] (by simp)).mono ?_;rintro e w3 ⟨rfl,l3,av,h3,ai⟩;have a0:=hE.step h3 ai;clear l0 l1 x0 x1 x2 x3 x4 x5 x6 x7 z0 z1 z2 z3 z4 z5 z6 z7 z8 ai;have l0:g0<w3.heap.size:=a0.lt (AH _ (AC));have l1:g0+1<w3.heap.size:=a0.lt (AC);obtain⟨x0,x1,x2,x3,x4,x5,x6,x7,_⟩:=Ab (a0.kept _ (AC));obtain⟨z0,z1,z2,z3,z4,z5,z6,z7,z8,_⟩:=Ad (a0.kept _ (AH _ (AC)));have aj:=G2 au hB hd a0.wr (az w3 a0.fw) (aw w3 a0.fw);go_wp2_with fail;refine aj.mono ?_;rcases hq0:((gE a).bind λ x=>(gBlk (gSts bo (indT tabs)) (indT tabs) bo.isEmpty).map λ y=>x ++ ([32] ++ y)) with _ | z
 .rintro e w4 ⟨rfl,l4,a6,h4,a7⟩;refine⟨rfl,?_⟩;rw[a4.out,hq0];exact⟨rfl,l4,a6,h4,a0.fw.trans a7⟩
 rintro e w4 ⟨rfl,l4,am,h4,a7⟩;have a5:=a0.step h4 a7;clear l0 l1 x0 x1 x2 x3 x4 x5 x6 x7 z0 z1 z2 z3 z4 z5 z6 z7 z8 aj a7;have l0:g0<w4.heap.size:=a5.lt (AH _ (AC));have l1:g0+1<w4.heap.size:=a5.lt (AC);obtain⟨x0,x1,x2,x3,x4,x5,x6,x7,_⟩:=Ab (a5.kept _ (AC));obtain⟨z0,z1,z2,z3,z4,z5,z6,z7,z8,_⟩:=Ad (a5.kept _ (AH _ (AC)));go_wp2
 go_end0
 rw[a4.out,hq0];exact⟨rfl,l4,by simpa using av.trans am,h4,a5.fw⟩
theorem Zw{base:Nat}  {n:AQ} {a:GE} {bo el:List GS} {l:AQ} {tabs:Nat}   (hW:Wr base b l tabs w) (hx:IsGS (λ k=>k<base) w (.mk 4 n [a] bo el) cs) (az:Dc base b a) (hB:Kj base b bo) (hd:tabs+1+D0 bo<=1099511627776) (b0:Kj base b el) (b4:tabs+1+D0 el<=1099511627776) (ax:(0:Int)<(el.length:Int)) :
  AA 128 #[Bh b,.agg cs.toArray] w λ r w'=>WPost base b l tabs w (((gE a).bind λ x=>(gBlk (gSts bo (indT tabs)) (indT tabs) bo.isEmpty).map λ y=>x ++ ([32] ++ y)).bind λ z=>(gBlk (gSts el (indT tabs)) (indT tabs) el.isEmpty).map λ u=>[105,102,32] ++ (z ++ ([32,101,108,115,101,32] ++ u))) r w':=by
 obtain⟨res,a4⟩:∃res:Option (List UInt8),Aside (res=((gE a).bind λ x=>(gBlk (gSts bo (indT tabs)) (indT tabs) bo.isEmpty).map λ y=>x ++ ([32] ++ y)).bind λ z=>(gBlk (gSts el (indT tabs)) (indT tabs) el.isEmpty).map λ u=>[105,102,32] ++ (z ++ ([32,101,108,115,101,32] ++ u))):=⟨_,show _=_ from rfl⟩;rw[<-a4.out];rw[IsGS] at hx;obtain⟨x,y,p,f,s1,s2,s3,r1,r2,r3,rfl,ad,aj,aa,au,af,ak⟩:=hx;obtain⟨a1,q1,rfl,b9⟩:=ad.slice;obtain⟨a2,q2,rfl,ay⟩:=aa.slice;obtain⟨a3,q3,rfl,b8⟩:=af.slice;have b6:∀w',FW base b w w'->B1 (λ k=>k<base) w' bo (.slice a2 bo.length q2):=λ w' hF=>⟨r2,aa.since hF.since,au.since hF.since⟩
 have b7:∀w',FW base b w w'->B1 (λ k=>k<base) w' el (.slice a3 el.length q3):=λ w' hF=>⟨r3,af.since hF.since,ak.since hF.since⟩
 have ai:=λ (q:Nat) (e:GE) (w':World) (hq:([a]:List GE)[q]?=some e) (hF:FW base b w w')=>Cw ad aj hF hq
 obtain⟨g,o',u0,u1,u2,u3,u4,u5,u6,u7,rfl,hg,⟨e0,e1,e2,e3,e4,e5,e6,e7⟩,ag⟩:=ai 0 a w rfl (AY _ _ _);obtain⟨k1,o1,n1,t1,ah,ae,b1,m1,c1,p1,ar⟩:=ag.shows;simp only[List.cons.injEq,and_true] at ar;obtain⟨rfl,rfl,rfl,rfl,rfl,rfl,rfl,rfl⟩:=ar;simp only[Nat.zero_mul,Nat.add_zero] at e0 e1 e2 e3 e4 e5 e6 e7;have hE:=In.sboxes hW (gsBox 4 n x f y (sL g o' 1 q1) (.slice a2 bo.length q2) (.slice a3 el.length q3) p) #[iv k1,iv o1,iv n1,.string t1,iv ah,.string ae,.slice b1 m1 c1,iv p1];have ba:∀w',FW base b w w'->IsGE (λ k=>k<base) w' a [iv k1,iv o1,iv n1,.string t1,iv ah,.string ae,.slice b1 m1 c1,iv p1]:=λ w' hF=>ag.since hF.since
 clear ad aj aa au af ak b9 ay hW ag;unfold maxLen at b8;go_enter func128,ntmps128;go_wp2_with fail;refine (need_ok _).mono ?_;rintro e w1 ⟨rfl,rfl⟩;go_wp2_with fail;generalize ((w.alloc (sBox (gsBox 4 n x f y (sL g o' 1 q1) (.slice a2 bo.length q2) (.slice a3 el.length q3) p))).alloc (xBox #[iv k1,iv o1,iv n1,.string t1,iv ah,.string ae,.slice b1 m1 c1,iv p1]))=w2 at *;generalize w.heap.size=g0 at *;have l0:g0<w2.heap.size:=hE.lt (AH _ (AC));have l1:g0+1<w2.heap.size:=hE.lt (AC);obtain⟨x0,x1,x2,x3,x4,x5,x6,x7,_⟩:=Ab (hE.kept _ (AC));obtain⟨z0,z1,z2,z3,z4,z5,z6,z7,z8,_⟩:=Ad (hE.kept _ (AH _ (AC)));refine (put_l hE.wr [105,102,32] (by simp)).mono ?_;rintro e w3 ⟨rfl,l3,b5,h3,al⟩;have a0:=hE.step h3 al;clear l0 l1 x0 x1 x2 x3 x4 x5 x6 x7 z0 z1 z2 z3 z4 z5 z6 z7 z8 al;have l0:g0<w3.heap.size:=a0.lt (AH _ (AC));have l1:g0+1<w3.heap.size:=a0.lt (AC);obtain⟨x0,x1,x2,x3,x4,x5,x6,x7,_⟩:=Ab (a0.kept _ (AC));obtain⟨z0,z1,z2,z3,z4,z5,z6,z7,z8,_⟩:=Ad (a0.kept _ (AH _ (AC)));have am:=G2 az hB hd a0.wr (ba w3 a0.fw) (b6 w3 a0.fw);go_wp2_with fail;refine am.mono ?_;rcases hq0:((gE a).bind λ x=>(gBlk (gSts bo (indT tabs)) (indT tabs) bo.isEmpty).map λ y=>x ++ ([32] ++ y)) with _ | z
 .rintro e w4 ⟨rfl,l4,a8,h4,a9⟩;refine⟨rfl,?_⟩;rw[a4.out,hq0];exact⟨rfl,l4,a8,h4,a0.fw.trans a9⟩
 rintro e w4 ⟨rfl,l4,av,h4,a9⟩;have a6:=a0.step h4 a9;clear l0 l1 x0 x1 x2 x3 x4 x5 x6 x7 z0 z1 z2 z3 z4 z5 z6 z7 z8 am a9;have l0:g0<w4.heap.size:=a6.lt (AH _ (AC));have l1:g0+1<w4.heap.size:=a6.lt (AC);obtain⟨x0,x1,x2,x3,x4,x5,x6,x7,_⟩:=Ab (a6.kept _ (AC));obtain⟨z0,z1,z2,z3,z4,z5,z6,z7,z8,_⟩:=Ad (a6.kept _ (AH _ (AC)));go_wp2_with fail;refine (put_l a6.wr [32,101,108,115,101,32] (by simp)).mono ?_;rintro e w5 ⟨rfl,l5,b3,h5,aq⟩;have a5:=a6.step h5 aq;clear l0 l1 x0 x1 x2 x3 x4 x5 x6 x7 z0 z1 z2 z3 z4 z5 z6 z7 z8 aq;have l0:g0<w5.heap.size:=a5.lt (AH _ (AC));have l1:g0+1<w5.heap.size:=a5.lt (AC);obtain⟨x0,x1,x2,x3,x4,x5,x6,x7,_⟩:=Ab (a5.kept _ (AC));obtain⟨z0,z1,z2,z3,z4,z5,z6,z7,z8,_⟩:=Ad (a5.kept _ (AH _ (AC)));have hC:=b0 l5 tabs _ w5 b4 h5 (b7 w5 a5.fw);go_wp2_with fail;refine hC.mono ?_;rcases hq:(gBlk (gSts el (indT tabs)) (indT tabs) el.isEmpty) with _ | u
 .rintro e w9 ⟨rfl,l9,a7,h9,ab⟩;refine⟨rfl,?_⟩;rw[a4.out,hq0,Option.bind_some,hq];exact⟨rfl,l9,a7,h9,a5.fw.trans ab⟩
 .rintro e w9 ⟨rfl,l9,aw,h9,ab⟩;go_wp2
  go_end0
  rw[a4.out,hq0,Option.bind_some,hq];exact⟨rfl,l9,by simpa using ((b5.trans av).trans b3).trans aw,h9,a5.fw.trans ab⟩
theorem Wy{base:Nat}  {n:AQ} {a c:GE} {bo el:List GS} {l:AQ} {tabs:Nat}   (hW:Wr base b l tabs w) (hx:IsGS (λ k=>k<base) w (.mk 2 n [a,c] bo el) cs) (b3:n.length<=maxLen) (b9:Dc base b a) (be:Dc base b c) :
  AA 128 #[Bh b,.agg cs.toArray] w λ r w'=>WPost base b l tabs w (if gName n then (gE a).bind λ x=>(gE c).map λ y=>[115,101,116,32] ++ (n ++ ([91] ++ (x ++ ([93,32,61,32] ++ (y ++ [59]))))) else none) r w':=by
 obtain⟨res,a0⟩:∃res:Option (List UInt8),Aside (res=if gName n then (gE a).bind λ x=>(gE c).map λ y=>[115,101,116,32] ++ (n ++ ([91] ++ (x ++ ([93,32,61,32] ++ (y ++ [59]))))) else none):=⟨_,show _=_ from rfl⟩;rw[<-a0.out];rw[IsGS] at hx;obtain⟨x,y,p,f,s1,s2,s3,r1,r2,r3,rfl,ag,aj,ae,b4,ah,aq⟩:=hx;obtain⟨a1,q1,rfl,bc⟩:=ag.slice;obtain⟨a2,q2,rfl,b8⟩:=ae.slice;obtain⟨a3,q3,rfl,bb⟩:=ah.slice;have bi:∀w',FW base b w w'->B1 (λ k=>k<base) w' bo (.slice a2 bo.length q2):=λ w' hF=>⟨r2,ae.since hF.since,b4.since hF.since⟩
 have bk:∀w',FW base b w w'->B1 (λ k=>k<base) w' el (.slice a3 el.length q3):=λ w' hF=>⟨r3,ah.since hF.since,aq.since hF.since⟩
 have a8:=λ (q:Nat) (e:GE) (w':World) (hq:([a,c]:List GE)[q]?=some e) (hF:FW base b w w')=>Cw ag aj hF hq
 obtain⟨g,o',u0,u1,u2,u3,u4,u5,u6,u7,rfl,hg,⟨e0,e1,e2,e3,e4,e5,e6,e7⟩,ai⟩:=a8 1 c w rfl (AY _ _ _);obtain⟨k1,o1,n1,t1,ad,aa,b1,m1,c1,p1,av⟩:=ai.shows;simp only[List.cons.injEq,and_true] at av;obtain⟨rfl,rfl,rfl,rfl,rfl,rfl,rfl,rfl⟩:=av;simp only[Nat.one_mul,Nat.add_assoc,Nat.reduceAdd] at e0 e1 e2 e3 e4 e5 e6 e7;have hE:=In.sboxes hW (gsBox 2 n x f y (sL g o' 2 q1) (.slice a2 bo.length q2) (.slice a3 el.length q3) p) #[iv k1,iv o1,iv n1,.string t1,iv ad,.string aa,.slice b1 m1 c1,iv p1];have bf:∀w',FW base b w w'->IsGE (λ k=>k<base) w' c [iv k1,iv o1,iv n1,.string t1,iv ad,.string aa,.slice b1 m1 c1,iv p1]:=λ w' hF=>ai.since hF.since
 clear ag aj ae b4 ah aq bc b8 hW ai;unfold maxLen at bb;go_enter func128,ntmps128;go_wp2_with fail;refine (need_ok _).mono ?_;rintro e w1 ⟨rfl,rfl⟩;have hN:=Da n;rcases hgn:gName n with _ | _
 .rw[hgn] at hN;go_wp2_with fail;generalize ((w.alloc (sBox (gsBox 2 n x f y (sL g o' 2 q1) (.slice a2 bo.length q2) (.slice a3 el.length q3) p))).alloc (xBox #[iv k1,iv o1,iv n1,.string t1,iv ad,.string aa,.slice b1 m1 c1,iv p1]))=w2 at *;generalize w.heap.size=g0 at *;have l0:g0<w2.heap.size:=hE.lt (AH _ (AC));have l1:g0+1<w2.heap.size:=hE.lt (AC);obtain⟨x0,x1,x2,x3,x4,x5,x6,x7,_⟩:=Ab (hE.kept _ (AC));obtain⟨z0,z1,z2,z3,z4,z5,z6,z7,z8,_⟩:=Ad (hE.kept _ (AH _ (AC)));refine (hN _ b3).mono ?_;rintro e w3 ⟨rfl,rfl⟩;refine⟨rfl,?_⟩;rw[a0.out,hgn];exact⟨rfl,l,tabs,hE.wr,hE.fw⟩
 have bj:=Ch hgn;rw[hgn] at hN;go_wp2_with fail;generalize ((w.alloc (sBox (gsBox 2 n x f y (sL g o' 2 q1) (.slice a2 bo.length q2) (.slice a3 el.length q3) p))).alloc (xBox #[iv k1,iv o1,iv n1,.string t1,iv ad,.string aa,.slice b1 m1 c1,iv p1]))=w2 at *;generalize w.heap.size=g0 at *;have l0:g0<w2.heap.size:=hE.lt (AH _ (AC));have l1:g0+1<w2.heap.size:=hE.lt (AC);obtain⟨x0,x1,x2,x3,x4,x5,x6,x7,_⟩:=Ab (hE.kept _ (AC));obtain⟨z0,z1,z2,z3,z4,z5,z6,z7,z8,_⟩:=Ad (hE.kept _ (AH _ (AC)));refine (hN _ b3).mono ?_;rintro e w2' ⟨rfl,rfl⟩;go_wp2_with fail;rw[Qu];refine (put_l hE.wr ([115,101,116,32] ++ n) (by simp;omega)).mono ?_;rintro e w3 ⟨rfl,l3,ba,h3,ar⟩;have a4:=hE.step h3 ar;clear l0 l1 x0 x1 x2 x3 x4 x5 x6 x7 z0 z1 z2 z3 z4 z5 z6 z7 z8 hN ar;have l0:g0<w3.heap.size:=a4.lt (AH _ (AC));have l1:g0+1<w3.heap.size:=a4.lt (AC);obtain⟨x0,x1,x2,x3,x4,x5,x6,x7,_⟩:=Ab (a4.kept _ (AC));obtain⟨z0,z1,z2,z3,z4,z5,z6,z7,z8,_⟩:=Ad (a4.kept _ (AH _ (AC)));obtain⟨g',bg,u0,u1,u2,u3,u4,u5,u6,u7,b0,bh,⟨ax,b5,ak,am,al,aw,ay,az⟩,a7⟩:=a8 0 a w3 rfl a4.fw;simp only[Option.some.injEq,Addr.mk.injEq,and_true] at b0;obtain⟨rfl,rfl⟩:=b0;simp only[Nat.zero_mul,Nat.add_zero] at ax b5 ak am al aw ay az;have au:=Ii b9 a4.wr a7;clear a7 e0 e1 e2 e3 e4 e5 e6 e7
 go_wp2_with fail
 refine au.mono ?_;rcases hq0:gE a with _ | x'
 .rintro e w4 ⟨rfl,l4,a9,h4,ab⟩;refine⟨rfl,?_⟩;rw[a0.out,hgn,if_pos rfl,hq0];exact⟨rfl,l4,a9,h4,a4.fw.trans ab⟩
 rintro e w4 ⟨rfl,l4,b6,h4,ab⟩;have a5:=a4.step h4 ab;clear l0 l1 x0 x1 x2 x3 x4 x5 x6 x7 z0 z1 z2 z3 z4 z5 z6 z7 z8 au ab ax b5 ak am al aw ay az;have l0:g0<w4.heap.size:=a5.lt (AH _ (AC));have l1:g0+1<w4.heap.size:=a5.lt (AC);obtain⟨x0,x1,x2,x3,x4,x5,x6,x7,_⟩:=Ab (a5.kept _ (AC));obtain⟨z0,z1,z2,z3,z4,z5,z6,z7,z8,_⟩:=Ad (a5.kept _ (AH _ (AC)));have hC:=Ij be a5.wr (bf w4 a5.fw);go_wp2_with fail;refine hC.mono ?_;rcases hq:gE c with _ | x
 .rintro e w9 ⟨rfl,l9,a6,h9,af⟩;refine⟨rfl,?_⟩;rw[a0.out,hgn,if_pos rfl,hq0,hq];exact⟨rfl,l9,a6,h9,a5.fw.trans af⟩
 .rintro e w9 ⟨rfl,l9,b7,h9,af⟩;go_wp2
  go_end0
  rw[a0.out,hgn,if_pos rfl,hq0,hq];exact⟨rfl,l9,by simpa using (ba.trans b6).trans b7,h9,a5.fw.trans af⟩
theorem Zu{base:Nat}  {n:AQ} {a:GE} {bo el:List GS} {l:AQ} {tabs:Nat}   (hW:Wr base b l tabs w) (hx:IsGS (λ k=>k<base) w (.mk 3 n [a] bo el) cs) (al:n.length<=maxLen) (av:Dc base b a) :
  AA 128 #[Bh b,.agg cs.toArray] w λ r w'=>WPost base b l tabs w (if gName n then (gE a).map λ x=>[100,101,108,32] ++ (n ++ ([91] ++ (x ++ [93,59]))) else none) r w':=by
 obtain⟨res,a0⟩:∃res:Option (List UInt8),Aside (res=if gName n then (gE a).map λ x=>[100,101,108,32] ++ (n ++ ([91] ++ (x ++ [93,59]))) else none):=⟨_,show _=_ from rfl⟩;rw[<-a0.out];rw[IsGS] at hx;obtain⟨x,y,p,f,s1,s2,s3,r1,r2,r3,rfl,ab,ag,aa,am,ad,ah⟩:=hx;obtain⟨a1,q1,rfl,az⟩:=ab.slice;obtain⟨a2,q2,rfl,ar⟩:=aa.slice;obtain⟨a3,q3,rfl,ay⟩:=ad.slice;have b3:∀w',FW base b w w'->B1 (λ k=>k<base) w' bo (.slice a2 bo.length q2):=λ w' hF=>⟨r2,aa.since hF.since,am.since hF.since⟩
 have b5:∀w',FW base b w w'->B1 (λ k=>k<base) w' el (.slice a3 el.length q3):=λ w' hF=>⟨r3,ad.since hF.since,ah.since hF.since⟩
 have af:=λ (q:Nat) (e:GE) (w':World) (hq:([a]:List GE)[q]?=some e) (hF:FW base b w w')=>Cw ab ag hF hq
 obtain⟨g,o',u0,u1,u2,u3,u4,u5,u6,u7,rfl,hg,⟨e0,e1,e2,e3,e4,e5,e6,e7⟩,ae⟩:=af 0 a w rfl (AY _ _ _);obtain⟨k1,o1,n1,t1,a9,a7,b1,m1,c1,p1,ak⟩:=ae.shows;simp only[List.cons.injEq,and_true] at ak;obtain⟨rfl,rfl,rfl,rfl,rfl,rfl,rfl,rfl⟩:=ak;simp only[Nat.zero_mul,Nat.add_zero] at e0 e1 e2 e3 e4 e5 e6 e7;have hE:=In.sboxes hW (gsBox 3 n x f y (sL g o' 1 q1) (.slice a2 bo.length q2) (.slice a3 el.length q3) p) #[iv k1,iv o1,iv n1,.string t1,iv a9,.string a7,.slice b1 m1 c1,iv p1];have b0:∀w',FW base b w w'->IsGE (λ k=>k<base) w' a [iv k1,iv o1,iv n1,.string t1,iv a9,.string a7,.slice b1 m1 c1,iv p1]:=λ w' hF=>ae.since hF.since
 clear ab ag aa am ad ah az ar hW ae;unfold maxLen at ay;go_enter func128,ntmps128;go_wp2_with fail;refine (need_ok _).mono ?_;rintro e w1 ⟨rfl,rfl⟩;have hN:=Da n;rcases hgn:gName n with _ | _
 .rw[hgn] at hN;go_wp2_with fail;generalize ((w.alloc (sBox (gsBox 3 n x f y (sL g o' 1 q1) (.slice a2 bo.length q2) (.slice a3 el.length q3) p))).alloc (xBox #[iv k1,iv o1,iv n1,.string t1,iv a9,.string a7,.slice b1 m1 c1,iv p1]))=w2 at *;generalize w.heap.size=g0 at *;have l0:g0<w2.heap.size:=hE.lt (AH _ (AC));have l1:g0+1<w2.heap.size:=hE.lt (AC);obtain⟨x0,x1,x2,x3,x4,x5,x6,x7,_⟩:=Ab (hE.kept _ (AC));obtain⟨z0,z1,z2,z3,z4,z5,z6,z7,z8,_⟩:=Ad (hE.kept _ (AH _ (AC)));refine (hN _ al).mono ?_;rintro e w3 ⟨rfl,rfl⟩;refine⟨rfl,?_⟩;rw[a0.out,hgn];exact⟨rfl,l,tabs,hE.wr,hE.fw⟩
 have b4:=Ch hgn;rw[hgn] at hN;go_wp2_with fail;generalize ((w.alloc (sBox (gsBox 3 n x f y (sL g o' 1 q1) (.slice a2 bo.length q2) (.slice a3 el.length q3) p))).alloc (xBox #[iv k1,iv o1,iv n1,.string t1,iv a9,.string a7,.slice b1 m1 c1,iv p1]))=w2 at *;generalize w.heap.size=g0 at *;have l0:g0<w2.heap.size:=hE.lt (AH _ (AC));have l1:g0+1<w2.heap.size:=hE.lt (AC);obtain⟨x0,x1,x2,x3,x4,x5,x6,x7,_⟩:=Ab (hE.kept _ (AC));obtain⟨z0,z1,z2,z3,z4,z5,z6,z7,z8,_⟩:=Ad (hE.kept _ (AH _ (AC)));refine (hN _ al).mono ?_;rintro e w2' ⟨rfl,rfl⟩;go_wp2_with fail;rw[Qu];refine (put_l hE.wr ([100,101,108,32] ++ n) (by simp;omega)).mono ?_;rintro e w3 ⟨rfl,l3,ax,h3,ai⟩;have a4:=hE.step h3 ai;clear l0 l1 x0 x1 x2 x3 x4 x5 x6 x7 z0 z1 z2 z3 z4 z5 z6 z7 z8 hN ai;have l0:g0<w3.heap.size:=a4.lt (AH _ (AC));have l1:g0+1<w3.heap.size:=a4.lt (AC);obtain⟨x0,x1,x2,x3,x4,x5,x6,x7,_⟩:=Ab (a4.kept _ (AC));obtain⟨z0,z1,z2,z3,z4,z5,z6,z7,z8,_⟩:=Ad (a4.kept _ (AH _ (AC)));have aj:=Ii av a4.wr (b0 w3 a4.fw);go_wp2_with fail;refine aj.mono ?_;rcases hq0:gE a with _ | x'
 .rintro e w4 ⟨rfl,l4,a6,h4,a8⟩;refine⟨rfl,?_⟩;rw[a0.out,hgn,if_pos rfl,hq0];exact⟨rfl,l4,a6,h4,a4.fw.trans a8⟩
 rintro e w4 ⟨rfl,l4,aq,h4,a8⟩;have a5:=a4.step h4 a8;clear l0 l1 x0 x1 x2 x3 x4 x5 x6 x7 z0 z1 z2 z3 z4 z5 z6 z7 z8 aj a8;have l0:g0<w4.heap.size:=a5.lt (AH _ (AC));have l1:g0+1<w4.heap.size:=a5.lt (AC);obtain⟨x0,x1,x2,x3,x4,x5,x6,x7,_⟩:=Ab (a5.kept _ (AC));obtain⟨z0,z1,z2,z3,z4,z5,z6,z7,z8,_⟩:=Ad (a5.kept _ (AH _ (AC)));go_wp2_with fail;refine (put_l a5.wr [59] (by simp)).mono ?_;rintro e w5 ⟨rfl,l5,aw,h5,au⟩;go_wp2
 go_end0
 rw[a0.out,hgn,if_pos rfl,hq0];exact⟨rfl,l5,by simpa using (ax.trans aq).trans aw,h5,a5.fw.trans au⟩
theorem Zx{base:Nat}  {n:AQ} {a:GE} {bo el:List GS} {l:AQ} {tabs:Nat}   (hW:Wr base b l tabs w) (hx:IsGS (λ k=>k<base) w (.mk 5 n [a] bo el) cs) (aj:n.length<=maxLen) (aq:Dc base b a) (hB:Kj base b bo) (hd:tabs+1+D0 bo<=1099511627776) :
  AA 128 #[Bh b,.agg cs.toArray] w λ r w'=>WPost base b l tabs w (if gName n then ((gE a).bind λ x=>(gBlk (gSts bo (indT tabs)) (indT tabs) bo.isEmpty).map λ y=>x ++ ([32] ++ y)).map λ z=>[102,111,114,32] ++ (n ++ ([32,116,111,32] ++ z)) else none) r w':=by
 obtain⟨res,a4⟩:∃res:Option (List UInt8),Aside (res=if gName n then ((gE a).bind λ x=>(gBlk (gSts bo (indT tabs)) (indT tabs) bo.isEmpty).map λ y=>x ++ ([32] ++ y)).map λ z=>[102,111,114,32] ++ (n ++ ([32,116,111,32] ++ z)) else none):=⟨_,show _=_ from rfl⟩;rw[<-a4.out];rw[IsGS] at hx;obtain⟨x,y,p,f,s1,s2,s3,r1,r2,r3,rfl,aa,af,a8,ak,ab,ag⟩:=hx;obtain⟨a1,q1,rfl,aw⟩:=aa.slice;obtain⟨a2,q2,rfl,am⟩:=a8.slice;obtain⟨a3,q3,rfl,av⟩:=ab.slice;have au:∀w',FW base b w w'->B1 (λ k=>k<base) w' bo (.slice a2 bo.length q2):=λ w' hF=>⟨r2,a8.since hF.since,ak.since hF.since⟩
 have az:∀w',FW base b w w'->B1 (λ k=>k<base) w' el (.slice a3 el.length q3):=λ w' hF=>⟨r3,ab.since hF.since,ag.since hF.since⟩
 have ae:=λ (q:Nat) (e:GE) (w':World) (hq:([a]:List GE)[q]?=some e) (hF:FW base b w w')=>Cw aa af hF hq
 obtain⟨g,o',u0,u1,u2,u3,u4,u5,u6,u7,rfl,hg,⟨e0,e1,e2,e3,e4,e5,e6,e7⟩,ad⟩:=ae 0 a w rfl (AY _ _ _);obtain⟨k1,o1,n1,t1,a7,a6,b1,m1,c1,p1,ai⟩:=ad.shows;simp only[List.cons.injEq,and_true] at ai;obtain⟨rfl,rfl,rfl,rfl,rfl,rfl,rfl,rfl⟩:=ai;simp only[Nat.zero_mul,Nat.add_zero] at e0 e1 e2 e3 e4 e5 e6 e7;have hE:=In.sboxes hW (gsBox 5 n x f y (sL g o' 1 q1) (.slice a2 bo.length q2) (.slice a3 el.length q3) p) #[iv k1,iv o1,iv n1,.string t1,iv a7,.string a6,.slice b1 m1 c1,iv p1];have ax:∀w',FW base b w w'->IsGE (λ k=>k<base) w' a [iv k1,iv o1,iv n1,.string t1,iv a7,.string a6,.slice b1 m1 c1,iv p1]:=λ w' hF=>ad.since hF.since
 clear aa af a8 ak ab ag aw am hW ad;unfold maxLen at av;go_enter func128,ntmps128;go_wp2_with fail;refine (need_ok _).mono ?_;rintro e w1 ⟨rfl,rfl⟩;have hN:=Da n;rcases hgn:gName n with _ | _
 .rw[hgn] at hN;go_wp2_with fail;generalize ((w.alloc (sBox (gsBox 5 n x f y (sL g o' 1 q1) (.slice a2 bo.length q2) (.slice a3 el.length q3) p))).alloc (xBox #[iv k1,iv o1,iv n1,.string t1,iv a7,.string a6,.slice b1 m1 c1,iv p1]))=w2 at *;generalize w.heap.size=g0 at *;have l0:g0<w2.heap.size:=hE.lt (AH _ (AC));have l1:g0+1<w2.heap.size:=hE.lt (AC);obtain⟨x0,x1,x2,x3,x4,x5,x6,x7,_⟩:=Ab (hE.kept _ (AC));obtain⟨z0,z1,z2,z3,z4,z5,z6,z7,z8,_⟩:=Ad (hE.kept _ (AH _ (AC)));refine (hN _ aj).mono ?_;rintro e w3 ⟨rfl,rfl⟩;refine⟨rfl,?_⟩;rw[a4.out,hgn];exact⟨rfl,l,tabs,hE.wr,hE.fw⟩
 have ay:=Ch hgn;rw[hgn] at hN;go_wp2_with fail;generalize ((w.alloc (sBox (gsBox 5 n x f y (sL g o' 1 q1) (.slice a2 bo.length q2) (.slice a3 el.length q3) p))).alloc (xBox #[iv k1,iv o1,iv n1,.string t1,iv a7,.string a6,.slice b1 m1 c1,iv p1]))=w2 at *;generalize w.heap.size=g0 at *;have l0:g0<w2.heap.size:=hE.lt (AH _ (AC));have l1:g0+1<w2.heap.size:=hE.lt (AC);obtain⟨x0,x1,x2,x3,x4,x5,x6,x7,_⟩:=Ab (hE.kept _ (AC));obtain⟨z0,z1,z2,z3,z4,z5,z6,z7,z8,_⟩:=Ad (hE.kept _ (AH _ (AC)));refine (hN _ aj).mono ?_;rintro e w2' ⟨rfl,rfl⟩;go_wp2_with fail;rw[Qu,Qu];refine (put_l hE.wr ([102,111,114,32] ++ n ++ [32,116,111,32]) (by simp;omega)).mono ?_;rintro e w3 ⟨rfl,l3,ar,h3,ah⟩;have a0:=hE.step h3 ah;clear l0 l1 x0 x1 x2 x3 x4 x5 x6 x7 z0 z1 z2 z3 z4 z5 z6 z7 z8 hN ah;have l0:g0<w3.heap.size:=a0.lt (AH _ (AC));have l1:g0+1<w3.heap.size:=a0.lt (AC);obtain⟨x0,x1,x2,x3,x4,x5,x6,x7,_⟩:=Ab (a0.kept _ (AC));obtain⟨z0,z1,z2,z3,z4,z5,z6,z7,z8,_⟩:=Ad (a0.kept _ (AH _ (AC)));have hC:=G2 aq hB hd a0.wr (ax w3 a0.fw) (au w3 a0.fw);go_wp2_with fail;refine hC.mono ?_;rcases hq:((gE a).bind λ x=>(gBlk (gSts bo (indT tabs)) (indT tabs) bo.isEmpty).map λ y=>x ++ ([32] ++ y)) with _ | z
 .rintro e w9 ⟨rfl,l9,a5,h9,a9⟩;refine⟨rfl,?_⟩;rw[a4.out,hgn,if_pos rfl,hq];exact⟨rfl,l9,a5,h9,a0.fw.trans a9⟩
 .rintro e w9 ⟨rfl,l9,al,h9,a9⟩;go_wp2
  go_end0
  rw[a4.out,hgn,if_pos rfl,hq];exact⟨rfl,l9,by simpa using ar.trans al,h9,a0.fw.trans a9⟩
theorem Zt{base:Nat}  {n:AQ} {a:GE} {bo el:List GS} {l:AQ} {tabs:Nat}   (hW:Wr base b l tabs w) (hx:IsGS (λ k=>k<base) w (.mk 1 n [a] bo el) cs) (aj:n.length<=maxLen) (aq:Dc base b a) :
  AA 128 #[Bh b,.agg cs.toArray] w λ r w'=>WPost base b l tabs w (if gName n then (gE a).map λ x=>[108,101,116,32] ++ (n ++ ([32,61,32] ++ (x ++ [59]))) else none) r w':=by
 obtain⟨res,a0⟩:∃res:Option (List UInt8),Aside (res=if gName n then (gE a).map λ x=>[108,101,116,32] ++ (n ++ ([32,61,32] ++ (x ++ [59]))) else none):=⟨_,show _=_ from rfl⟩;rw[<-a0.out];rw[IsGS] at hx;obtain⟨x,y,p,f,s1,s2,s3,r1,r2,r3,rfl,aa,af,a8,ak,ab,ag⟩:=hx;obtain⟨a1,q1,rfl,av⟩:=aa.slice;obtain⟨a2,q2,rfl,am⟩:=a8.slice;obtain⟨a3,q3,rfl,au⟩:=ab.slice;have ax:∀w',FW base b w w'->B1 (λ k=>k<base) w' bo (.slice a2 bo.length q2):=λ w' hF=>⟨r2,a8.since hF.since,ak.since hF.since⟩
 have az:∀w',FW base b w w'->B1 (λ k=>k<base) w' el (.slice a3 el.length q3):=λ w' hF=>⟨r3,ab.since hF.since,ag.since hF.since⟩
 have ae:=λ (q:Nat) (e:GE) (w':World) (hq:([a]:List GE)[q]?=some e) (hF:FW base b w w')=>Cw aa af hF hq
 obtain⟨g,o',u0,u1,u2,u3,u4,u5,u6,u7,rfl,hg,⟨e0,e1,e2,e3,e4,e5,e6,e7⟩,ad⟩:=ae 0 a w rfl (AY _ _ _);obtain⟨k1,o1,n1,t1,a7,a6,b1,m1,c1,p1,ai⟩:=ad.shows;simp only[List.cons.injEq,and_true] at ai;obtain⟨rfl,rfl,rfl,rfl,rfl,rfl,rfl,rfl⟩:=ai;simp only[Nat.zero_mul,Nat.add_zero] at e0 e1 e2 e3 e4 e5 e6 e7;have hE:=In.sboxes hW (gsBox 1 n x f y (sL g o' 1 q1) (.slice a2 bo.length q2) (.slice a3 el.length q3) p) #[iv k1,iv o1,iv n1,.string t1,iv a7,.string a6,.slice b1 m1 c1,iv p1];have aw:∀w',FW base b w w'->IsGE (λ k=>k<base) w' a [iv k1,iv o1,iv n1,.string t1,iv a7,.string a6,.slice b1 m1 c1,iv p1]:=λ w' hF=>ad.since hF.since
 clear aa af a8 ak ab ag av am hW ad;unfold maxLen at au;go_enter func128,ntmps128;go_wp2_with fail;refine (need_ok _).mono ?_;rintro e w1 ⟨rfl,rfl⟩;have hN:=Da n;rcases hgn:gName n with _ | _
 .rw[hgn] at hN;go_wp2_with fail;generalize ((w.alloc (sBox (gsBox 1 n x f y (sL g o' 1 q1) (.slice a2 bo.length q2) (.slice a3 el.length q3) p))).alloc (xBox #[iv k1,iv o1,iv n1,.string t1,iv a7,.string a6,.slice b1 m1 c1,iv p1]))=w2 at *;generalize w.heap.size=g0 at *;have l0:g0<w2.heap.size:=hE.lt (AH _ (AC));have l1:g0+1<w2.heap.size:=hE.lt (AC);obtain⟨x0,x1,x2,x3,x4,x5,x6,x7,_⟩:=Ab (hE.kept _ (AC));obtain⟨z0,z1,z2,z3,z4,z5,z6,z7,z8,_⟩:=Ad (hE.kept _ (AH _ (AC)));refine (hN _ aj).mono ?_;rintro e w3 ⟨rfl,rfl⟩;refine⟨rfl,?_⟩;rw[a0.out,hgn];exact⟨rfl,l,tabs,hE.wr,hE.fw⟩
 have ay:=Ch hgn;rw[hgn] at hN;go_wp2_with fail;generalize ((w.alloc (sBox (gsBox 1 n x f y (sL g o' 1 q1) (.slice a2 bo.length q2) (.slice a3 el.length q3) p))).alloc (xBox #[iv k1,iv o1,iv n1,.string t1,iv a7,.string a6,.slice b1 m1 c1,iv p1]))=w2 at *;generalize w.heap.size=g0 at *;have l0:g0<w2.heap.size:=hE.lt (AH _ (AC));have l1:g0+1<w2.heap.size:=hE.lt (AC);obtain⟨x0,x1,x2,x3,x4,x5,x6,x7,_⟩:=Ab (hE.kept _ (AC));obtain⟨z0,z1,z2,z3,z4,z5,z6,z7,z8,_⟩:=Ad (hE.kept _ (AH _ (AC)));refine (hN _ aj).mono ?_;rintro e w2' ⟨rfl,rfl⟩;go_wp2_with fail;rw[Qu];refine (put_l hE.wr ([108,101,116,32] ++ n) (by simp;omega)).mono ?_;rintro e w3 ⟨rfl,l3,ar,h3,ah⟩;have a4:=hE.step h3 ah;clear l0 l1 x0 x1 x2 x3 x4 x5 x6 x7 z0 z1 z2 z3 z4 z5 z6 z7 z8 hN ah;have l0:g0<w3.heap.size:=a4.lt (AH _ (AC));have l1:g0+1<w3.heap.size:=a4.lt (AC);obtain⟨x0,x1,x2,x3,x4,x5,x6,x7,_⟩:=Ab (a4.kept _ (AC));obtain⟨z0,z1,z2,z3,z4,z5,z6,z7,z8,_⟩:=Ad (a4.kept _ (AH _ (AC)));have hC:=Ij aq a4.wr (aw w3 a4.fw);go_wp2_with fail;refine hC.mono ?_;rcases hq:gE a with _ | x
 .rintro e w9 ⟨rfl,l9,a5,h9,a9⟩;refine⟨rfl,?_⟩;rw[a0.out,hgn,if_pos rfl,hq];exact⟨rfl,l9,a5,h9,a4.fw.trans a9⟩
 .rintro e w9 ⟨rfl,l9,al,h9,a9⟩;go_wp2
  go_end0
  rw[a0.out,hgn,if_pos rfl,hq];exact⟨rfl,l9,by simpa using ar.trans al,h9,a4.fw.trans a9⟩
end
end Go.Proofs.YtpckmjfabiallaaGreatDoor
