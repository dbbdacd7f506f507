/- Texts of ours, joined. -/
import Derived.Test.YtpckmjfabiallaaGreatDoorG15
set_option linter.unusedVariables false
set_option linter.unusedSimpArgs false
set_option maxRecDepth 100000
set_option maxHeartbeats 16000000
namespace Go.Proofs.YtpckmjfabiallaaGreatDoor
variable{b:Nat}{cs:List Value}{w:World}
open List
open Tryz
section
open Go.RowKit
open Px (opL opX dg lv)
theorem Ba7(args:Array Value)(w:World):(callFunc 182 args).run prog w=.ok (.enter 182 args) w:=enters_of func182 (by kernel_rfl) rfl args w
theorem Yq{base:Nat}{o n:Int}{t:AQ}{args:List GE}{a3:Nat}{l:AQ}{tabs:Nat}(hW:Wr base b l tabs w)(hx:IsGE (λ k=>k<base) w (.mk 7 o n t args) cs)(h1:t.length<=maxLen)(hX:∀e∈args,Dp base b e)(aj:a3<=6) :
  AA 156 #[Bo b,.agg cs.toArray,iv a3] w λ r w'=>WPost base b l tabs w (if gName t then (allS (args.map gE)).map λ xs=>t ++ 40 :: (commasS xs ++ [41]) else none) r w':=by
 rw[IsGE] at hx;obtain⟨x,p,y,sl,row,rfl,hr,ha⟩:=hx;obtain⟨ao,cap,rfl,hm⟩:=hr.slice;obtain⟨res,a4⟩:∃res:Option (List UInt8),Aside (res=if gName t then (allS (args.map gE)).map λ xs=>t ++ 40 :: (commasS xs ++ [41]) else none):=⟨_,show _=_ from rfl⟩;rw[<-a4.out];have ad:=hW.lt;unfold maxLen at hm;have hE:=BB hW (geBox 7 o n t x y (.slice ao args.length cap) p);have hA:=Cg 7 o n t x y ao args.length cap p;rw[show nArgs 7 args.length=args.length by simp[nArgs]] at hA;clear hW;refine A9 func156 rfl ?_;simp only[ntmps156,size_toArray,length_cons,length_nil,Nat.reduceAdd,Nat.reduceSub,Array.replicate_succ,Array.replicate_zero,push_toArray,append_toArray,nil_append,cons_append]
 go_upto_region 1 with fail
 generalize ((w.alloc (Am b)).alloc (xBox (geBox 7 o n t x y (.slice ao args.length cap) p)))=w2 at *;generalize w.heap.size=g0 at *
 go_cut [] from 6 to 12 (λ wc=>In base b (eks b g0 (geBox 7 o n t x y (.slice ao args.length cap) p)) l tabs w wc)
 case first=>
  have l0:g0<w2.heap.size:=hE.lt (q:=(g0,Am b)) (by simp);have l1:g0+1<w2.heap.size:=hE.lt (q:=(g0+1,xBox _)) (by simp;rfl);obtain⟨x0,x1,x2,x3,x4,x5,x6,x7,_⟩:=Ab (hE.kept _ (AC))
  go_region_with (first
   |(go_at_call 178;refine (hA _).mono ?_;rintro e w3 ⟨rfl,ag⟩;have aa:=hE.drew.call ag;have l3:g0+1<w3.heap.size:=aa.lt (q:=(g0+1,xBox _)) (by simp;rfl);obtain⟨y0,y1,y2,y3,y4,y5,y6,y7,_⟩:=Ab (aa.kept _ (AC)))
   |(go_at_call 89;refine (need_ok _).mono ?_;rintro e w4 ⟨rfl,rfl⟩))
  all_goals (go_wp2_with fail;go_meet;exact aa)
 case rest=>
  clear hE hA;have hE:=hcut;have l0:g0<wc.heap.size:=hE.lt (q:=(g0,Am b)) (by simp);have l1:g0+1<wc.heap.size:=hE.lt (q:=(g0+1,xBox _)) (by simp;rfl);have c0:=cell_of_one (hE.kept (g0,Am b) (by simp));obtain⟨x0,x1,x2,x3,x4,x5,x6,x7,_⟩:=Ab (hE.kept _ (AC));have hL:=Do 7 o n (by decide) t x y ao args.length cap p wc;rw[if_neg (by decide)] at hL;have ae:¬(6:Int)<(a3:Int):=by omega
  go_wp2_with fail
  refine hL.mono ?_;rintro e w4 ⟨rfl,ab⟩;have a5:=hE.call ab;clear l0 l1 c0 x0 x1 x2 x3 x4 x5 x6 x7 hL hE hcut ab;have l0:g0<w4.heap.size:=a5.lt (q:=(g0,Am b)) (by simp);have l1:g0+1<w4.heap.size:=a5.lt (q:=(g0+1,xBox _)) (by simp;rfl);have c0:=cell_of_one (a5.kept (g0,Am b) (by simp));obtain⟨x0,x1,x2,x3,x4,x5,x6,x7,_⟩:=Ab (a5.kept _ (AC));have hN:=Oc t w4.drew h1;have ai:∀(fn:Fn) (first cap:Array Value) (w:World),(Instr.makeFunc fn first cap).run prog w=.ok (.func fn first cap) w:=λ _ _ _ _=>rfl
  rcases hgn:gName t with _ | _
  .rw[hgn] at hN
   go_upto_region 16 with fail
   go_region_with (go_at_call 91;refine hN.mono ?_;rintro e w5 ⟨rfl,a9⟩;have a0:=a5.drew.call a9;refine skip_way w5 (λ _=>leaveP (show WPost base b l tabs w res _ _ by rw[a4.out,hgn];exact⟨rfl,l,tabs,a0.wr,a0.fw⟩)) ?_)
   all_goals trivial
  .rw[hgn] at hN;have ah:=Od hgn
   go_upto_region 16 with fail
   go_cut [] from 53 to 57 (λ wc=>∃l5,Bt l t l5/\In base b (eks b g0 (geBox 7 o n t x y (.slice ao args.length cap) p)) l5 tabs w wc)
   case first=>
    go_region_with (first
     |(go_at_call 91;refine hN.mono ?_;rintro e w5 ⟨rfl,a9⟩;have a0:=a5.drew.call a9;have l5:g0<w5.heap.size:=a0.lt (q:=(g0,Am b)) (by simp);have c5:=cell_of_one (a0.kept (g0,Am b) (by simp)))
     |(go_at_call 60;refine (put_l a0.wr t (by omega)).mono ?_;rintro e w6 ⟨rfl,l6,a8,h6,a6⟩))
    all_goals (go_wp2_with fail;go_meet;exact⟨l6,a8,a0.step h6 a6⟩)
   case rest=>
    clear l0 l1 c0 x0 x1 x2 x3 x4 x5 x6 x7 hN a5;obtain⟨l5,af,a0⟩:=hcut;have l0:g0<wc.heap.size:=a0.lt (q:=(g0,Am b)) (by simp);have l1:g0+1<wc.heap.size:=a0.lt (q:=(g0+1,xBox _)) (by simp;rfl);have c0:=cell_of_one (a0.kept (g0,Am b) (by simp));obtain⟨x0,x1,x2,x3,x4,x5,x6,x7,_⟩:=Ab (a0.kept _ (AC));have hC:=Gj (K:=182) (caps:=#[pt g0 0,pt (g0+1) 0]) (xs:=args.map gE) (Inv:=CallIn base b g0 (geBox 7 o n t x y (.slice ao args.length cap) p) w) a0.wr (by simp;omega) Ba7 (Yl hr ha hX) (λ _ _ h hf=>h.step hf) ⟨a0.kept (g0,Am b) (by simp),a0.kept _ (AC),ad,a0.fw⟩;rw[length_map] at hC;rcases hqa:allS (args.map gE) with _ | zs
    .rw[hqa] at hC;go_wp2_with fail;refine hC.mono ?_;rintro e w6 ⟨rfl,l6,a7,h6,a6⟩;exact λ _=>leaveP (show WPost base b l tabs w res _ _ by rw[a4.out,hgn,if_pos rfl,hqa];exact⟨rfl,l6,a7,h6,a0.fw.trans a6⟩)
    .rw[hqa] at hC;go_wp2_with fail;refine hC.mono ?_;rintro e w6 ⟨rfl,l6,a8,h6,a6⟩;go_wp2;exact leave0 rfl (show WPost base b l tabs w res _ _ by rw[a4.out,hgn,if_pos rfl,hqa];exact⟨rfl,l6,af.trans a8,h6,a0.fw.trans a6⟩)
theorem Ap9{base:Nat}{o n:Int}{t:AQ}{a c:GE}{a0:Nat}{l:AQ}{tabs:Nat}(hW:Wr base b l tabs w)(hx:IsGE (λ k=>k<base) w (.mk 12 o n t [a,c]) cs)(ai:Dp base b a)(al:Dp base b c)(am:a0<=6) :
  AA 156 #[Bo b,.agg cs.toArray,iv a0] w λ r w'=>WPost base b l tabs w ((gE a).bind λ x=>(gE c).map λ y=>withinS (Bv 7 a) x ++ 91 :: (y ++ [93])) r w':=by
 rw[IsGE] at hx;obtain⟨x,p,y,sl,row,rfl,hr,ha⟩:=hx;obtain⟨ao,cap,rfl,hm⟩:=hr.slice;obtain⟨res,a3⟩:∃res:Option (List UInt8),Aside (res=(gE a).bind λ x=>(gE c).map λ y=>withinS (Bv 7 a) x ++ 91 :: (y ++ [93])):=⟨_,show _=_ from rfl⟩;rw[<-a3.out];have a9:=λ (q:Nat) (e:GE) (w':World) (hq:([a,c]:List GE)[q]?=some e) (hF:FW base b w w')=>Da hr ha hF hq
 clear hr ha hm;have hE:=BB hW (geBox 12 o n t x y (.slice ao 2 cap) p);have hA:=Cg 12 o n t x y ao 2 cap p;rw[show nArgs 12 2=2 from rfl] at hA;clear hW;refine A9 func156 rfl ?_;simp only[ntmps156,size_toArray,length_cons,length_nil,Nat.reduceAdd,Nat.reduceSub,Array.replicate_succ,Array.replicate_zero,push_toArray,append_toArray,nil_append,cons_append]
 go_upto_region 1 with fail
 generalize ((w.alloc (Am b)).alloc (xBox (geBox 12 o n t x y (.slice ao 2 cap) p)))=w2 at *;generalize w.heap.size=g0 at *
 go_cut [] from 6 to 12 (λ wc=>In base b (eks b g0 (geBox 12 o n t x y (.slice ao 2 cap) p)) l tabs w wc)
 case first=>
  have l0:g0<w2.heap.size:=hE.lt (q:=(g0,Am b)) (by simp);have l1:g0+1<w2.heap.size:=hE.lt (q:=(g0+1,xBox _)) (by simp;rfl);obtain⟨x0,x1,x2,x3,x4,x5,x6,x7,_⟩:=Ab (hE.kept _ (AC))
  go_region_with (first
   |(go_at_call 178;refine (hA _).mono ?_;rintro e w3 ⟨rfl,aj⟩;have aa:=hE.drew.call aj;have l3:g0+1<w3.heap.size:=aa.lt (q:=(g0+1,xBox _)) (by simp;rfl);obtain⟨y0,y1,y2,y3,y4,y5,y6,y7,_⟩:=Ab (aa.kept _ (AC)))
   |(go_at_call 89;refine (need_ok _).mono ?_;rintro e w4 ⟨rfl,rfl⟩))
  all_goals (go_wp2_with fail;go_meet;exact aa)
 case rest=>
  clear hE hA;have hE:=hcut;have l0:g0<wc.heap.size:=hE.lt (q:=(g0,Am b)) (by simp);have l1:g0+1<wc.heap.size:=hE.lt (q:=(g0+1,xBox _)) (by simp;rfl);have c0:=cell_of_one (hE.kept (g0,Am b) (by simp));obtain⟨x0,x1,x2,x3,x4,x5,x6,x7,_⟩:=Ab (hE.kept _ (AC));have hL:=Do 12 o n (by decide) t x y ao 2 cap p wc;rw[if_neg (by decide)] at hL;have ak:¬(6:Int)<(a0:Int):=by omega
  go_wp2_with fail
  refine hL.mono ?_;rintro e w4 ⟨rfl,ag⟩;have a4:=hE.call ag;clear l0 l1 c0 x0 x1 x2 x3 x4 x5 x6 x7 hL hE hcut ag;have l0:g0<w4.heap.size:=a4.lt (q:=(g0,Am b)) (by simp);have l1:g0+1<w4.heap.size:=a4.lt (q:=(g0+1,xBox _)) (by simp;rfl);have c0:=cell_of_one (a4.kept (g0,Am b) (by simp));obtain⟨x0,x1,x2,x3,x4,x5,x6,x7,_⟩:=Ab (a4.kept _ (AC));obtain⟨g,o',u0,u1,u2,u3,u4,u5,u6,u7,rfl,hg,⟨e0,e1,e2,e3,e4,e5,e6,e7⟩,a6⟩:=a9 0 a w4 rfl a4.fw;simp only[Nat.zero_mul,Nat.add_zero] at e0 e1 e2 e3 e4 e5 e6 e7;have hC:=ai 6 l tabs _ w4.drew (by omega) a4.wr.drew (a6.since (Since.drewN _ w4 1));clear a6;rcases hqa:gE a with _ | za
  .rw[hqa] at hC
   go_upto_region 19 with fail
   go_region_with (go_at_call 156;refine hC.mono ?_;rintro e w5 ⟨rfl,l5,a8,h5,ab⟩;refine skip_way w5 (λ _=>leaveP (show WPost base b l tabs w res _ _ by rw[a3.out,hqa];exact⟨rfl,l5,a8,h5,a4.fw.trans (AZ 1 ab)⟩)) ?_)
   all_goals trivial
  .rw[hqa] at hC
   go_upto_region 19 with fail
   go_cut [] from 66 to 71 (λ wc=>∃l5,Bt l (withinS (Bv 7 a) za) l5/\In base b (eks b g0 (geBox 12 o n t x y (sL g o' 2 cap) p)) l5 tabs w wc)
   case first=>
    go_region_with (go_at_call 156;refine hC.mono ?_;rintro e w5 ⟨rfl,l5,ad,h5,ab⟩)
    all_goals (go_wp2_with fail;go_meet;exact⟨l5,ad,a4.step h5 (AZ 1 ab)⟩)
   case rest=>
    clear l0 l1 c0 x0 x1 x2 x3 x4 x5 x6 x7 e0 e1 e2 e3 e4 e5 e6 e7 hC a4 hg;obtain⟨l5,ad,a5⟩:=hcut;have l0:g0<wc.heap.size:=a5.lt (q:=(g0,Am b)) (by simp);have l1:g0+1<wc.heap.size:=a5.lt (q:=(g0+1,xBox _)) (by simp;rfl);have c0:=cell_of_one (a5.kept (g0,Am b) (by simp));obtain⟨x0,x1,x2,x3,x4,x5,x6,x7,_⟩:=Ab (a5.kept _ (AC));obtain⟨g,o',u0,u1,u2,u3,u4,u5,u6,u7,af,hg,⟨e0,e1,e2,e3,e4,e5,e6,e7⟩,a6⟩:=a9 1 c wc rfl a5.fw;simp only[Option.some.injEq,Addr.mk.injEq,and_true] at af;obtain⟨rfl,rfl⟩:=af;simp only[Nat.one_mul,Nat.add_assoc,Nat.reduceAdd] at e0 e1 e2 e3 e4 e5 e6 e7;have hC:=Jy al a5.wr.drew (a6.since (Since.drewN _ wc 1));clear a6;rcases hqc:gE c with _ | zc
    .rw[hqc] at hC
     go_upto_region 20 with fail
     go_region_with (go_at_call 154;refine hC.mono ?_;rintro e w6 ⟨rfl,l6,a7,h6,ae⟩;refine skip_way w6 (λ _=>leaveP (show WPost base b l tabs w res _ _ by rw[a3.out,hqa,hqc];exact⟨rfl,l6,a7,h6,a5.fw.trans (AZ 1 ae)⟩)) ?_)
     all_goals trivial
    .rw[hqc] at hC
     go_upto_region 20 with fail
     go_region_with (go_at_call 154;refine hC.mono ?_;rintro e w6 ⟨rfl,l6,ah,h6,ae⟩)
     all_goals
      go_wp2;exact leave0 rfl (show WPost base b l tabs w res _ _ by rw[a3.out,hqa,hqc];exact⟨rfl,l6,ad.trans ah,h6,a5.fw.trans (AZ 1 ae)⟩)
end
section
open Go.RowKit
open Px (opL opX dg)
theorem Yw{base:Nat}{o n:Int}{t:AQ}{a3:Nat}{l:AQ}{tabs:Nat}(hW:Wr base b l tabs w)(hx:IsGE (λ k=>k<base) w (.mk 3 o n t []) cs)(af:a3<=6)(h1:t.length<=maxLen) :
  AA 156 #[Bo b,.agg cs.toArray,iv a3] w λ r w'=>WPost base b l tabs w (if plainB t then some (Fl t) else none) r w':=by
 rw[IsGE] at hx;obtain⟨x,p,y,sl,row,rfl,hr,ha⟩:=hx;obtain⟨ao,cap,rfl,hm⟩:=hr.slice;obtain⟨res,a0⟩:∃res:Option (List UInt8),Aside (res=if plainB t then some (Fl t) else none):=⟨_,show _=_ from rfl⟩;rw[<-a0.out];clear ha hr hm;have hE:=BB hW (geBox 3 o n t x y (.slice ao 0 cap) p);have hA:=Cg 3 o n t x y ao 0 cap p;rw[show nArgs 3 0=0 from rfl] at hA;clear hW;refine A9 func156 rfl ?_;simp only[ntmps156,size_toArray,length_cons,length_nil,Nat.reduceAdd,Nat.reduceSub,Array.replicate_succ,Array.replicate_zero,push_toArray,append_toArray,nil_append,cons_append]
 go_upto_region 1 with fail
 generalize ((w.alloc (Am b)).alloc (xBox (geBox 3 o n t x y (.slice ao 0 cap) p)))=w2 at *;generalize w.heap.size=g0 at *
 go_cut [] from 6 to 12 (λ wc=>In base b (eks b g0 (geBox 3 o n t x y (.slice ao 0 cap) p)) l tabs w wc)
 case first=>
  have l0:g0<w2.heap.size:=hE.lt (q:=(g0,Am b)) (by simp);have l1:g0+1<w2.heap.size:=hE.lt (q:=(g0+1,xBox _)) (by simp;rfl);obtain⟨x0,x1,x2,x3,x4,x5,x6,x7,_⟩:=Ab (hE.kept _ (AC))
  go_region_with (first
   |(go_at_call 178;refine (hA _).mono ?_;rintro e w3 ⟨rfl,ae⟩;have a7:=hE.drew.call ae;have l3:g0+1<w3.heap.size:=a7.lt (q:=(g0+1,xBox _)) (by simp;rfl);obtain⟨y0,y1,y2,y3,y4,y5,y6,y7,_⟩:=Ab (a7.kept _ (AC)))
   |(go_at_call 89;refine (need_ok _).mono ?_;rintro e w4 ⟨rfl,rfl⟩))
  all_goals (go_wp2_with fail;go_meet;exact a7)
 case rest=>
  clear hE hA;have hE:=hcut;have l0:g0<wc.heap.size:=hE.lt (q:=(g0,Am b)) (by simp);have l1:g0+1<wc.heap.size:=hE.lt (q:=(g0+1,xBox _)) (by simp;rfl);have c0:=cell_of_one (hE.kept (g0,Am b) (by simp));obtain⟨x0,x1,x2,x3,x4,x5,x6,x7,_⟩:=Ab (hE.kept _ (AC));have hL:=Do 3 o n (by decide) t x y ao 0 cap p wc;rw[if_neg (by decide)] at hL;have ad:¬(6:Int)<(a3:Int):=by omega
  go_wp2_with fail
  refine hL.mono ?_;rintro e w4 ⟨rfl,a8⟩;have a5:=hE.call a8;clear l0 l1 c0 x0 x1 x2 x3 x4 x5 x6 x7 hL hE hcut a8;have l0:g0<w4.heap.size:=a5.lt (q:=(g0,Am b)) (by simp);have l1:g0+1<w4.heap.size:=a5.lt (q:=(g0+1,xBox _)) (by simp;rfl);have c0:=cell_of_one (a5.kept (g0,Am b) (by simp));obtain⟨x0,x1,x2,x3,x4,x5,x6,x7,_⟩:=Ab (a5.kept _ (AC));have hN:AA 181 #[.string ⟨t.toArray⟩] w4.drew λ e w'=>Kg w4.drew res e w':=by
   rw[a0.out];exact Us t w4.drew h1
  go_upto_region 12 with fail
  rcases hq:res with _ | z
  .rw[hq] at hN;clear a0
   go_region_with (go_at_call 181;refine hN.mono ?_;rintro e w5 ⟨rfl,a6⟩;have a4:=a5.drew.call a6;refine skip_way w5 (λ _=>leaveP (show WPost base b l tabs w res _ _ by rw[hq];exact⟨rfl,l,tabs,a4.wr,a4.fw⟩)) ?_)
   all_goals trivial
  .rw[hq] at hN;have ab:z.length<=1099511627776:=by
    have:=a0.out;rw[hq] at this;split at this
    .rename_i hpl;simp only[Option.some.injEq] at this;subst this;simp only[plainB,Bool.and_eq_true,decide_eq_true_eq] at hpl;have:=Ll t;simp[Fl];omega
    .cases this
   clear a0
   go_region_with (first
    |(go_at_call 181;refine hN.mono ?_;rintro e w5 ⟨rfl,a6⟩;have a4:=a5.drew.call a6;have l5:g0<w5.heap.size:=a4.lt (q:=(g0,Am b)) (by simp);have c5:=cell_of_one (a4.kept (g0,Am b) (by simp)))
    |(go_at_call 60;refine (put_l a4.wr z ab).mono ?_;rintro e w6 ⟨rfl,l6,aa,h6,a9⟩))
   all_goals
    go_wp2;exact leave0 rfl (show WPost base b l tabs w res _ _ by rw[hq];exact⟨rfl,l6,aa,h6,a4.fw.trans a9⟩)
theorem Yv{base:Nat}{o n:Int}{t:AQ}{a3:Nat}{l:AQ}{tabs:Nat}(hW:Wr base b l tabs w)(hx:IsGE (λ k=>k<base) w (.mk 2 o n t []) cs)(af:a3<=6)  :
  AA 156 #[Bo b,.agg cs.toArray,iv a3] w λ r w'=>WPost base b l tabs w (if 0<=n/\n<=1 then some (if n=1 then [116,114,117,101] else [102,97,108,115,101]) else none) r w':=by
 rw[IsGE] at hx;obtain⟨x,p,y,sl,row,rfl,hr,ha⟩:=hx;obtain⟨ao,cap,rfl,hm⟩:=hr.slice;obtain⟨res,a0⟩:∃res:Option (List UInt8),Aside (res=if 0<=n/\n<=1 then some (if n=1 then [116,114,117,101] else [102,97,108,115,101]) else none):=⟨_,show _=_ from rfl⟩;rw[<-a0.out];clear ha hr hm;have hE:=BB hW (geBox 2 o n t x y (.slice ao 0 cap) p);have hA:=Cg 2 o n t x y ao 0 cap p;rw[show nArgs 2 0=0 from rfl] at hA;clear hW;refine A9 func156 rfl ?_;simp only[ntmps156,size_toArray,length_cons,length_nil,Nat.reduceAdd,Nat.reduceSub,Array.replicate_succ,Array.replicate_zero,push_toArray,append_toArray,nil_append,cons_append]
 go_upto_region 1 with fail
 generalize ((w.alloc (Am b)).alloc (xBox (geBox 2 o n t x y (.slice ao 0 cap) p)))=w2 at *;generalize w.heap.size=g0 at *
 go_cut [] from 6 to 12 (λ wc=>In base b (eks b g0 (geBox 2 o n t x y (.slice ao 0 cap) p)) l tabs w wc)
 case first=>
  have l0:g0<w2.heap.size:=hE.lt (q:=(g0,Am b)) (by simp);have l1:g0+1<w2.heap.size:=hE.lt (q:=(g0+1,xBox _)) (by simp;rfl);obtain⟨x0,x1,x2,x3,x4,x5,x6,x7,_⟩:=Ab (hE.kept _ (AC))
  go_region_with (first
   |(go_at_call 178;refine (hA _).mono ?_;rintro e w3 ⟨rfl,ae⟩;have a7:=hE.drew.call ae;have l3:g0+1<w3.heap.size:=a7.lt (q:=(g0+1,xBox _)) (by simp;rfl);obtain⟨y0,y1,y2,y3,y4,y5,y6,y7,_⟩:=Ab (a7.kept _ (AC)))
   |(go_at_call 89;refine (need_ok _).mono ?_;rintro e w4 ⟨rfl,rfl⟩))
  all_goals (go_wp2_with fail;go_meet;exact a7)
 case rest=>
  clear hE hA;have hE:=hcut;have l0:g0<wc.heap.size:=hE.lt (q:=(g0,Am b)) (by simp);have l1:g0+1<wc.heap.size:=hE.lt (q:=(g0+1,xBox _)) (by simp;rfl);have c0:=cell_of_one (hE.kept (g0,Am b) (by simp));obtain⟨x0,x1,x2,x3,x4,x5,x6,x7,_⟩:=Ab (hE.kept _ (AC));have hL:=Do 2 o n (by decide) t x y ao 0 cap p wc;rw[if_neg (by decide)] at hL;have ad:¬(6:Int)<(a3:Int):=by omega
  go_wp2_with fail
  refine hL.mono ?_;rintro e w4 ⟨rfl,a8⟩;have a5:=hE.call a8;clear l0 l1 c0 x0 x1 x2 x3 x4 x5 x6 x7 hL hE hcut a8;have l0:g0<w4.heap.size:=a5.lt (q:=(g0,Am b)) (by simp);have l1:g0+1<w4.heap.size:=a5.lt (q:=(g0+1,xBox _)) (by simp;rfl);have c0:=cell_of_one (a5.kept (g0,Am b) (by simp));obtain⟨x0,x1,x2,x3,x4,x5,x6,x7,_⟩:=Ab (a5.kept _ (AC));have hN:AA 180 #[iv n] w4.drew λ e w'=>Kg w4.drew res e w':=by
   rw[a0.out];exact Yh n w4.drew
  go_upto_region 10 with fail
  rcases hq:res with _ | z
  .rw[hq] at hN;clear a0
   go_region_with (go_at_call 180;refine hN.mono ?_;rintro e w5 ⟨rfl,a6⟩;have a4:=a5.drew.call a6;refine skip_way w5 (λ _=>leaveP (show WPost base b l tabs w res _ _ by rw[hq];exact⟨rfl,l,tabs,a4.wr,a4.fw⟩)) ?_)
   all_goals trivial
  .rw[hq] at hN;have ab:z.length<=1099511627776:=by
    have:=a0.out;rw[hq] at this;split at this
    .simp only[Option.some.injEq] at this;subst this;split <;> simp
    .cases this
   clear a0
   go_region_with (first
    |(go_at_call 180;refine hN.mono ?_;rintro e w5 ⟨rfl,a6⟩;have a4:=a5.drew.call a6;have l5:g0<w5.heap.size:=a4.lt (q:=(g0,Am b)) (by simp);have c5:=cell_of_one (a4.kept (g0,Am b) (by simp)))
    |(go_at_call 60;refine (put_l a4.wr z ab).mono ?_;rintro e w6 ⟨rfl,l6,aa,h6,a9⟩))
   all_goals
    go_wp2;exact leave0 rfl (show WPost base b l tabs w res _ _ by rw[hq];exact⟨rfl,l6,aa,h6,a4.fw.trans a9⟩)
theorem Ag2{base:Nat}{o n:Int}{t:AQ}{a3:Nat}{l:AQ}{tabs:Nat}(hW:Wr base b l tabs w)(hx:IsGE (λ k=>k<base) w (.mk 1 o n t []) cs)(af:a3<=6)(h1:n<=9223372036854775807) :
  AA 156 #[Bo b,.agg cs.toArray,iv a3] w λ r w'=>WPost base b l tabs w (if 0<=n then some (dg n.toNat) else none) r w':=by
 rw[IsGE] at hx;obtain⟨x,p,y,sl,row,rfl,hr,ha⟩:=hx;obtain⟨ao,cap,rfl,hm⟩:=hr.slice;obtain⟨res,a0⟩:∃res:Option (List UInt8),Aside (res=if 0<=n then some (dg n.toNat) else none):=⟨_,show _=_ from rfl⟩;rw[<-a0.out];clear ha hr hm;have hE:=BB hW (geBox 1 o n t x y (.slice ao 0 cap) p);have hA:=Cg 1 o n t x y ao 0 cap p;rw[show nArgs 1 0=0 from rfl] at hA;clear hW;refine A9 func156 rfl ?_;simp only[ntmps156,size_toArray,length_cons,length_nil,Nat.reduceAdd,Nat.reduceSub,Array.replicate_succ,Array.replicate_zero,push_toArray,append_toArray,nil_append,cons_append]
 go_upto_region 1 with fail
 generalize ((w.alloc (Am b)).alloc (xBox (geBox 1 o n t x y (.slice ao 0 cap) p)))=w2 at *;generalize w.heap.size=g0 at *
 go_cut [] from 6 to 12 (λ wc=>In base b (eks b g0 (geBox 1 o n t x y (.slice ao 0 cap) p)) l tabs w wc)
 case first=>
  have l0:g0<w2.heap.size:=hE.lt (q:=(g0,Am b)) (by simp);have l1:g0+1<w2.heap.size:=hE.lt (q:=(g0+1,xBox _)) (by simp;rfl);obtain⟨x0,x1,x2,x3,x4,x5,x6,x7,_⟩:=Ab (hE.kept _ (AC))
  go_region_with (first
   |(go_at_call 178;refine (hA _).mono ?_;rintro e w3 ⟨rfl,ae⟩;have a7:=hE.drew.call ae;have l3:g0+1<w3.heap.size:=a7.lt (q:=(g0+1,xBox _)) (by simp;rfl);obtain⟨y0,y1,y2,y3,y4,y5,y6,y7,_⟩:=Ab (a7.kept _ (AC)))
   |(go_at_call 89;refine (need_ok _).mono ?_;rintro e w4 ⟨rfl,rfl⟩))
  all_goals (go_wp2_with fail;go_meet;exact a7)
 case rest=>
  clear hE hA;have hE:=hcut;have l0:g0<wc.heap.size:=hE.lt (q:=(g0,Am b)) (by simp);have l1:g0+1<wc.heap.size:=hE.lt (q:=(g0+1,xBox _)) (by simp;rfl);have c0:=cell_of_one (hE.kept (g0,Am b) (by simp));obtain⟨x0,x1,x2,x3,x4,x5,x6,x7,_⟩:=Ab (hE.kept _ (AC));have hL:=Do 1 o n (by decide) t x y ao 0 cap p wc;rw[if_neg (by decide)] at hL;have ad:¬(6:Int)<(a3:Int):=by omega
  go_wp2_with fail
  refine hL.mono ?_;rintro e w4 ⟨rfl,a8⟩;have a5:=hE.call a8;clear l0 l1 c0 x0 x1 x2 x3 x4 x5 x6 x7 hL hE hcut a8;have l0:g0<w4.heap.size:=a5.lt (q:=(g0,Am b)) (by simp);have l1:g0+1<w4.heap.size:=a5.lt (q:=(g0+1,xBox _)) (by simp;rfl);have c0:=cell_of_one (a5.kept (g0,Am b) (by simp));obtain⟨x0,x1,x2,x3,x4,x5,x6,x7,_⟩:=Ab (a5.kept _ (AC));have hN:AA 61 #[iv n] w4.drew λ e w'=>Kg w4.drew res e w':=by
   rw[a0.out];exact L8 n w4.drew a5.drew.wr.tab h1
  go_upto_region 8 with fail
  rcases hq:res with _ | z
  .rw[hq] at hN;clear a0
   go_region_with (go_at_call 61;refine hN.mono ?_;rintro e w5 ⟨rfl,a6⟩;have a4:=a5.drew.call a6;refine skip_way w5 (λ _=>leaveP (show WPost base b l tabs w res _ _ by rw[hq];exact⟨rfl,l,tabs,a4.wr,a4.fw⟩)) ?_)
   all_goals trivial
  .rw[hq] at hN;have ab:z.length<=1099511627776:=by
    have:=a0.out;rw[hq] at this;split at this
    .simp only[Option.some.injEq] at this;subst this;have:=Ae7 n.toNat (by omega);omega
    .cases this
   clear a0
   go_region_with (first
    |(go_at_call 61;refine hN.mono ?_;rintro e w5 ⟨rfl,a6⟩;have a4:=a5.drew.call a6;have l5:g0<w5.heap.size:=a4.lt (q:=(g0,Am b)) (by simp);have c5:=cell_of_one (a4.kept (g0,Am b) (by simp)))
    |(go_at_call 60;refine (put_l a4.wr z ab).mono ?_;rintro e w6 ⟨rfl,l6,aa,h6,a9⟩))
   all_goals
    go_wp2;exact leave0 rfl (show WPost base b l tabs w res _ _ by rw[hq];exact⟨rfl,l6,aa,h6,a4.fw.trans a9⟩)
end
section
open Go.RowKit
open Px (opL opX dg lv)
theorem Bc8(k o n:Int)(t:AQ):gE (.mk k o n t [])=gKS k o n t [] []:=by rw[gE];simp only[gEs]
theorem Ba8(k o n:Int)(t:AQ)(a:GE):gE (.mk k o n t [a])=(gE a).bind λ x=>gKS k o n t [a] [x]:=by
 rw[gE];simp only[gEs];rcases gE a with _ | x <;> rfl
theorem Aw9(k o n:Int)(t:AQ)(a c:GE):gE (.mk k o n t [a,c])=(gE a).bind λ x=>(gE c).bind λ y=>gKS k o n t [a,c] [x,y]:=by
 rw[gE];simp only[gEs];rcases gE a with _ | x <;> rcases gE c with _ | y <;> rfl
theorem Sq:∀{l:List (Option (List UInt8))} {xs:List (List UInt8)},allS l=some xs->xs.length=l.length
 | [],xs,h=>by simp[allS] at h;subst h;rfl
 | x :: r,xs,h=>by
  simp only[allS,Option.bind_eq_some_iff,Option.map_eq_some_iff] at h;obtain⟨y,rfl,ys,hy,rfl⟩:=h;simp[Sq hy]
theorem Yx{k o n:Int}{t:AQ}{args:List GE}{xs:List (List UInt8)}(hc:xs.length≠nArgs k xs.length):gKS k o n t args xs=none:=by
 unfold gKS;unfold nArgs at hc;by_cases h1:k=1
 .subst h1;have hc:xs.length≠0:=by simpa using hc
  rw[if_pos rfl,if_neg (λ h=>hc h.1)]
 rw[if_neg h1];by_cases h2:k=2
 .subst h2;have hc:xs.length≠0:=by simpa using hc
  rw[if_pos rfl,if_neg (λ h=>hc h.1)]
 rw[if_neg h2];by_cases h3:k=3
 .subst h3;have hc:xs.length≠0:=by simpa using hc
  rw[if_pos rfl,if_neg (λ h=>hc h.1)]
 rw[if_neg h3];by_cases h6:k=6
 .subst h6;have hc:xs.length≠0:=by simpa using hc
  rw[if_pos rfl,if_neg (λ h=>hc h.1)]
 rw[if_neg h6];by_cases h7:k=7
 .subst h7;simp at hc
 rw[if_neg h7];rw[if_neg h7] at hc;by_cases h12:k=12
 .subst h12;rw[if_pos (Or.inl rfl)] at hc;rw[if_pos rfl,if_neg hc]
 rw[if_neg h12];by_cases h13:k=13
 .subst h13;rw[if_neg (by omega),if_pos (Or.inl rfl)] at hc;rw[if_pos rfl,if_neg hc]
 rw[if_neg h13];by_cases h14:k=14
 .subst h14;rw[if_neg (by omega),if_pos (Or.inr rfl)] at hc;rw[if_pos rfl,if_neg hc]
 rw[if_neg h14];by_cases h15:k=15
 .subst h15;rw[if_pos (Or.inr rfl)] at hc;rw[if_pos rfl,if_neg (λ h=>hc h.1)]
 rw[if_neg h15]
theorem Ag3{k o n:Int}{t:AQ}{args:List GE}(hc:args.length≠nArgs k args.length):gE (.mk k o n t args)=none:=by
 rw[gE,Qa];rcases h:allS (args.map gE) with _ | xs
 .rfl
 .have hl:=Sq h;rw[length_map] at hl;rw[<-hl] at hc;exact Yx hc
theorem U2{k o n:Int}{t:AQ}{args:List GE}(a3:k≠15)(a0:k≠13)(a4:k≠14)(j:Nat):Bv j (.mk k o n t args)=false:=by
 simp[Bv,GE.k,GE.o,a3,a0,a4]
theorem Qb(r:Option (List UInt8)):r.map (withinS false)=r:=by cases r <;> simp[withinS]
theorem U3{base:Nat}{k o n:Int}{t:AQ}{args:List GE}(h1:n<=9223372036854775807)(h2:t.length<=maxLen)(hs:∀e∈args,Dp base b e):Dp base b (.mk k o n t args):=by
 intro least l tabs cs w hle hW hx;by_cases hc':args.length≠nArgs k args.length
 .rw[Ag3 hc'];exact Ux hW hx hc'
 have hc:args.length=nArgs k args.length:=by omega
 by_cases k7:k=7
 .subst k7;rw[U2 (by decide) (by decide) (by decide),Qb];have:=Yq hW hx h2 hs hle;have e:gE (.mk 7 o n t args)=if gName t then (allS (args.map gE)).map λ xs=>t ++ 40 :: (commasS xs ++ [41]) else none:=by
   rw[gE,Qa];rcases allS (args.map gE) with _ | xs
   .cases gName t <;> rfl
   .simp[gKS]
  rw[e];exact this
 by_cases k12:k=12
 .subst k12;rw[U2 (by decide) (by decide) (by decide),Qb];have hl:args.length=2:=by rw[hc];rfl
  match args,hl,hs,hx with
  | [a,c],_,hs,hx=>
   have:=Ap9 hW hx (hs a (by simp)) (hs c (by simp)) hle;have e:gE (.mk 12 o n t [a,c])=(gE a).bind λ x=>(gE c).map λ y=>withinS (Bv 7 a) x ++ 91 :: (y ++ [93]):=by
    rw[Aw9];rcases gE a with _ | x <;> rcases gE c with _ | y <;> simp[gKS]
   rw[e];exact this
 by_cases k13:k=13
 .subst k13;have hl:args.length=1:=by rw[hc];rfl
  match args,hl,hs,hx with
  | [a],_,hs,hx=>
   have:=Yr hW hx (hs a (by simp)) hle;have e:(gE (.mk 13 o n t [a])).map (withinS (Bv (least+1) (.mk 13 o n t [a])))=(gE a).map λ x=>withinS (Bv (least+1) (.mk 13 o n t [a])) (45 :: withinS (Bv 6 a) x):=by
    rw[Ba8];rcases gE a with _ | x <;> simp[gKS]
   rw[e];exact this
 by_cases k14:k=14
 .subst k14;have hl:args.length=1:=by rw[hc];rfl
  match args,hl,hs,hx with
  | [a],_,hs,hx=>
   have:=Ys hW hx (hs a (by simp)) hle;have e:(gE (.mk 14 o n t [a])).map (withinS (Bv (least+1) (.mk 14 o n t [a])))=(gE a).map λ x=>withinS (Bv (least+1) (.mk 14 o n t [a])) (33 :: withinS (Bv 6 a) x):=by
    rw[Ba8];rcases gE a with _ | x <;> simp[gKS]
   rw[e];exact this
 by_cases k15:k=15
 .subst k15;have hl:args.length=2:=by rw[hc];rfl
  match args,hl,hs,hx with
  | [a,c],_,hs,hx=>
   by_cases hop:gL o=0
   .have e:gE (.mk 15 o n t [a,c])=none:=by
     rw[Aw9];rcases gE a with _ | x <;> rcases gE c with _ | y <;> simp[gKS,hop]
    rw[e];exact Yu hW hx hop hle
   .obtain⟨m,rfl,m1,m2⟩:=Ae8 hop;have:=Ag1 hW hx m1 m2 (hs a (by simp)) (hs c (by simp)) hle;have e:gE (.mk 15 m n t [a,c])=bnT m a c:=by
     rw[Aw9,bnT];rw[gL_nat] at hop;rcases gE a with _ | x <;> rcases gE c with _ | y <;> simp[gKS,gL_nat,hop]
    rw[e];exact this
 rw[U2 k15 k13 k14,Qb];have hl:args.length=0:=by rw[hc];unfold nArgs;rw[if_neg k7,if_neg (by omega),if_neg (by omega)]
 match args,hl,hx with
 | [],_,hx=>
  rw[Bc8];by_cases k1:k=1
  .subst k1;have:=Ag2 hW hx hle h1;rw[show gKS 1 o n t [] []=if 0<=n then some (dg n.toNat) else none by simp[gKS]];exact this
  by_cases k2:k=2
  .subst k2;have:=Yv hW hx hle;rw[show gKS 2 o n t [] []=if 0<=n/\n<=1 then some (if n=1 then [116,114,117,101] else [102,97,108,115,101]) else none by simp[gKS]];exact this
  by_cases k3:k=3
  .subst k3;have:=Yw hW hx hle h2;rw[show gKS 3 o n t [] []=if plainB t then some (Fl t) else none by simp[gKS]];exact this
  by_cases k6:k=6
  .subst k6;have:=Yp hW hx hle h2;rw[show gKS 6 o n t [] []=if gName t then some t else none by simp[gKS]];exact this
  have:=Yt hW hx ⟨k1,k2,k3,k6,k7,k12,k13,k14,k15⟩ hle;rw[show gKS k o n t [] []=none by simp[gKS,k1,k2,k3,k6,k7,k12,k13,k14,k15]];exact this
mutual
theorem Bc9{base b:Nat}:∀e:GE,OkE e->Dp base b e
 | .mk k o n t args,h=>by
  rw[OkE] at h;exact U3 h.1 h.2.1 (Ag4 args h.2.2)
theorem Ag4{base b:Nat}:∀l:List GE,Sh l->∀e∈l,Dp base b e
 | [],_,e,he=>by simp at he
 | a :: r,h,e,he=>by
  rw[Sh] at h;have ha:=Bc9 (base:=base) (b:=b) a h.1;have hr:=Ag4 (base:=base) (b:=b) r h.2;rcases mem_cons.1 he with rfl | he
  .exact ha
  .exact hr e he
end
end
section
open Go.RowKit
theorem Af5{base:Nat}  {n:AQ} {a:GE} {bo el:List GS} {l:AQ} {tabs:Nat}   (hW:Wr base b l tabs w) (hx:IsGS (λ k=>k<base) w (.mk 4 n [a] bo el) cs) (au:Dp base b a) (hB:Mb base b bo) (hd:tabs+1+Ei bo<=1099511627776) (aq:¬(0:Int)<(el.length:Int)) :
  AA 128 #[Bo b,.agg cs.toArray] w λ r w'=>WPost base b l tabs w (((gE a).bind λ x=>(gBlk (gSts bo (indT tabs)) (indT tabs) bo.isEmpty).map λ y=>x ++ ([32] ++ y)).map λ z=>[105,102,32] ++ z) r w':=by
 obtain⟨res,a4⟩:∃res:Option (List UInt8),Aside (res=((gE a).bind λ x=>(gBlk (gSts bo (indT tabs)) (indT tabs) bo.isEmpty).map λ y=>x ++ ([32] ++ y)).map λ z=>[105,102,32] ++ z):=⟨_,show _=_ from rfl⟩;rw[<-a4.out];rw[IsGS] at hx;obtain⟨x,y,p,f,s1,s2,s3,r1,r2,r3,rfl,a9,ag,a8,al,ab,ah⟩:=hx;obtain⟨a1,q1,rfl,ay⟩:=a9.slice;obtain⟨a2,q2,rfl,ar⟩:=a8.slice;obtain⟨a3,q3,rfl,ax⟩:=ab.slice;have aw:∀w',FW base b w w'->B7 (λ k=>k<base) w' bo (.slice a2 bo.length q2):=λ w' hF=>⟨r2,a8.since hF.since,al.since hF.since⟩
 have b0:∀w',FW base b w w'->B7 (λ k=>k<base) w' el (.slice a3 el.length q3):=λ w' hF=>⟨r3,ab.since hF.since,ah.since hF.since⟩
 have af:=λ (q:Nat) (e:GE) (w':World) (hq:([a]:List GE)[q]?=some e) (hF:FW base b w w')=>Da a9 ag hF hq
 obtain⟨g,o',u0,u1,u2,u3,u4,u5,u6,u7,rfl,hg,⟨e0,e1,e2,e3,e4,e5,e6,e7⟩,ad⟩:=af 0 a w rfl (AY _ _ _);obtain⟨k1,o1,n1,t1,ae,aa,b1,m1,c1,p1,ak⟩:=ad.shows;simp only[List.cons.injEq,and_true] at ak;obtain⟨rfl,rfl,rfl,rfl,rfl,rfl,rfl,rfl⟩:=ak;simp only[Nat.zero_mul,Nat.add_zero] at e0 e1 e2 e3 e4 e5 e6 e7;have hE:=In.sboxes hW (gsBox 4 n x f y (sL g o' 1 q1) (.slice a2 bo.length q2) (.slice a3 el.length q3) p) #[iv k1,iv o1,iv n1,.string t1,iv ae,.string aa,.slice b1 m1 c1,iv p1];have az:∀w',FW base b w w'->IsGE (λ k=>k<base) w' a [iv k1,iv o1,iv n1,.string t1,iv ae,.string aa,.slice b1 m1 c1,iv p1]:=λ w' hF=>ad.since hF.since
 clear a9 ag a8 al ab ah ay ar hW ad;unfold maxLen at ax;go_enter func128,ntmps128;go_wp2_with fail;refine (need_ok _).mono ?_;rintro e w1 ⟨rfl,rfl⟩;go_wp2_with fail;generalize ((w.alloc (sBox (gsBox 4 n x f y (sL g o' 1 q1) (.slice a2 bo.length q2) (.slice a3 el.length q3) p))).alloc (xBox #[iv k1,iv o1,iv n1,.string t1,iv ae,.string aa,.slice b1 m1 c1,iv p1]))=w2 at *;generalize w.heap.size=g0 at *;have l0:g0<w2.heap.size:=hE.lt (AH _ (AC));have l1:g0+1<w2.heap.size:=hE.lt (AC);obtain⟨x0,x1,x2,x3,x4,x5,x6,x7,_⟩:=Ab (hE.kept _ (AC));obtain⟨z0,z1,z2,z3,z4,z5,z6,z7,z8,_⟩:=Ad (hE.kept _ (AH _ (AC)));refine (put_l hE.wr [105,102,32] (by simp)).mono ?_;rintro e w3 ⟨rfl,l3,av,h3,ai⟩;have a0:=hE.step h3 ai;clear l0 l1 x0 x1 x2 x3 x4 x5 x6 x7 z0 z1 z2 z3 z4 z5 z6 z7 z8 ai;have l0:g0<w3.heap.size:=a0.lt (AH _ (AC));have l1:g0+1<w3.heap.size:=a0.lt (AC);obtain⟨x0,x1,x2,x3,x4,x5,x6,x7,_⟩:=Ab (a0.kept _ (AC));obtain⟨z0,z1,z2,z3,z4,z5,z6,z7,z8,_⟩:=Ad (a0.kept _ (AH _ (AC)));have aj:=Ib au hB hd a0.wr (az w3 a0.fw) (aw w3 a0.fw);go_wp2_with fail;refine aj.mono ?_;rcases hq0:((gE a).bind λ x=>(gBlk (gSts bo (indT tabs)) (indT tabs) bo.isEmpty).map λ y=>x ++ ([32] ++ y)) with _ | z
 .rintro e w4 ⟨rfl,l4,a6,h4,a7⟩;refine⟨rfl,?_⟩;rw[a4.out,hq0];exact⟨rfl,l4,a6,h4,a0.fw.trans a7⟩
 rintro e w4 ⟨rfl,l4,am,h4,a7⟩;have a5:=a0.step h4 a7;clear l0 l1 x0 x1 x2 x3 x4 x5 x6 x7 z0 z1 z2 z3 z4 z5 z6 z7 z8 aj a7;have l0:g0<w4.heap.size:=a5.lt (AH _ (AC));have l1:g0+1<w4.heap.size:=a5.lt (AC);obtain⟨x0,x1,x2,x3,x4,x5,x6,x7,_⟩:=Ab (a5.kept _ (AC));obtain⟨z0,z1,z2,z3,z4,z5,z6,z7,z8,_⟩:=Ad (a5.kept _ (AH _ (AC)));go_wp2
 go_end0
 rw[a4.out,hq0];exact⟨rfl,l4,by simpa using av.trans am,h4,a5.fw⟩
theorem Af6{base:Nat}  {n:AQ} {a:GE} {bo el:List GS} {l:AQ} {tabs:Nat}   (hW:Wr base b l tabs w) (hx:IsGS (λ k=>k<base) w (.mk 4 n [a] bo el) cs) (az:Dp base b a) (hB:Mb base b bo) (hd:tabs+1+Ei bo<=1099511627776) (b0:Mb base b el) (b4:tabs+1+Ei el<=1099511627776) (ax:(0:Int)<(el.length:Int)) :
  AA 128 #[Bo b,.agg cs.toArray] w λ r w'=>WPost base b l tabs w (((gE a).bind λ x=>(gBlk (gSts bo (indT tabs)) (indT tabs) bo.isEmpty).map λ y=>x ++ ([32] ++ y)).bind λ z=>(gBlk (gSts el (indT tabs)) (indT tabs) el.isEmpty).map λ u=>[105,102,32] ++ (z ++ ([32,101,108,115,101,32] ++ u))) r w':=by
 obtain⟨res,a4⟩:∃res:Option (List UInt8),Aside (res=((gE a).bind λ x=>(gBlk (gSts bo (indT tabs)) (indT tabs) bo.isEmpty).map λ y=>x ++ ([32] ++ y)).bind λ z=>(gBlk (gSts el (indT tabs)) (indT tabs) el.isEmpty).map λ u=>[105,102,32] ++ (z ++ ([32,101,108,115,101,32] ++ u))):=⟨_,show _=_ from rfl⟩;rw[<-a4.out];rw[IsGS] at hx;obtain⟨x,y,p,f,s1,s2,s3,r1,r2,r3,rfl,ad,aj,aa,au,af,ak⟩:=hx;obtain⟨a1,q1,rfl,b9⟩:=ad.slice;obtain⟨a2,q2,rfl,ay⟩:=aa.slice;obtain⟨a3,q3,rfl,b8⟩:=af.slice;have b6:∀w',FW base b w w'->B7 (λ k=>k<base) w' bo (.slice a2 bo.length q2):=λ w' hF=>⟨r2,aa.since hF.since,au.since hF.since⟩
 have b7:∀w',FW base b w w'->B7 (λ k=>k<base) w' el (.slice a3 el.length q3):=λ w' hF=>⟨r3,af.since hF.since,ak.since hF.since⟩
 have ai:=λ (q:Nat) (e:GE) (w':World) (hq:([a]:List GE)[q]?=some e) (hF:FW base b w w')=>Da ad aj hF hq
 obtain⟨g,o',u0,u1,u2,u3,u4,u5,u6,u7,rfl,hg,⟨e0,e1,e2,e3,e4,e5,e6,e7⟩,ag⟩:=ai 0 a w rfl (AY _ _ _);obtain⟨k1,o1,n1,t1,ah,ae,b1,m1,c1,p1,ar⟩:=ag.shows;simp only[List.cons.injEq,and_true] at ar;obtain⟨rfl,rfl,rfl,rfl,rfl,rfl,rfl,rfl⟩:=ar;simp only[Nat.zero_mul,Nat.add_zero] at e0 e1 e2 e3 e4 e5 e6 e7;have hE:=In.sboxes hW (gsBox 4 n x f y (sL g o' 1 q1) (.slice a2 bo.length q2) (.slice a3 el.length q3) p) #[iv k1,iv o1,iv n1,.string t1,iv ah,.string ae,.slice b1 m1 c1,iv p1];have ba:∀w',FW base b w w'->IsGE (λ k=>k<base) w' a [iv k1,iv o1,iv n1,.string t1,iv ah,.string ae,.slice b1 m1 c1,iv p1]:=λ w' hF=>ag.since hF.since
 clear ad aj aa au af ak b9 ay hW ag;unfold maxLen at b8;go_enter func128,ntmps128;go_wp2_with fail;refine (need_ok _).mono ?_;rintro e w1 ⟨rfl,rfl⟩;go_wp2_with fail;generalize ((w.alloc (sBox (gsBox 4 n x f y (sL g o' 1 q1) (.slice a2 bo.length q2) (.slice a3 el.length q3) p))).alloc (xBox #[iv k1,iv o1,iv n1,.string t1,iv ah,.string ae,.slice b1 m1 c1,iv p1]))=w2 at *;generalize w.heap.size=g0 at *;have l0:g0<w2.heap.size:=hE.lt (AH _ (AC));have l1:g0+1<w2.heap.size:=hE.lt (AC);obtain⟨x0,x1,x2,x3,x4,x5,x6,x7,_⟩:=Ab (hE.kept _ (AC));obtain⟨z0,z1,z2,z3,z4,z5,z6,z7,z8,_⟩:=Ad (hE.kept _ (AH _ (AC)));refine (put_l hE.wr [105,102,32] (by simp)).mono ?_;rintro e w3 ⟨rfl,l3,b5,h3,al⟩;have a0:=hE.step h3 al;clear l0 l1 x0 x1 x2 x3 x4 x5 x6 x7 z0 z1 z2 z3 z4 z5 z6 z7 z8 al;have l0:g0<w3.heap.size:=a0.lt (AH _ (AC));have l1:g0+1<w3.heap.size:=a0.lt (AC);obtain⟨x0,x1,x2,x3,x4,x5,x6,x7,_⟩:=Ab (a0.kept _ (AC));obtain⟨z0,z1,z2,z3,z4,z5,z6,z7,z8,_⟩:=Ad (a0.kept _ (AH _ (AC)));have am:=Ib az hB hd a0.wr (ba w3 a0.fw) (b6 w3 a0.fw);go_wp2_with fail;refine am.mono ?_;rcases hq0:((gE a).bind λ x=>(gBlk (gSts bo (indT tabs)) (indT tabs) bo.isEmpty).map λ y=>x ++ ([32] ++ y)) with _ | z
 .rintro e w4 ⟨rfl,l4,a8,h4,a9⟩;refine⟨rfl,?_⟩;rw[a4.out,hq0];exact⟨rfl,l4,a8,h4,a0.fw.trans a9⟩
 rintro e w4 ⟨rfl,l4,av,h4,a9⟩;have a6:=a0.step h4 a9;clear l0 l1 x0 x1 x2 x3 x4 x5 x6 x7 z0 z1 z2 z3 z4 z5 z6 z7 z8 am a9;have l0:g0<w4.heap.size:=a6.lt (AH _ (AC));have l1:g0+1<w4.heap.size:=a6.lt (AC);obtain⟨x0,x1,x2,x3,x4,x5,x6,x7,_⟩:=Ab (a6.kept _ (AC));obtain⟨z0,z1,z2,z3,z4,z5,z6,z7,z8,_⟩:=Ad (a6.kept _ (AH _ (AC)));go_wp2_with fail;refine (put_l a6.wr [32,101,108,115,101,32] (by simp)).mono ?_;rintro e w5 ⟨rfl,l5,b3,h5,aq⟩;have a5:=a6.step h5 aq;clear l0 l1 x0 x1 x2 x3 x4 x5 x6 x7 z0 z1 z2 z3 z4 z5 z6 z7 z8 aq;have l0:g0<w5.heap.size:=a5.lt (AH _ (AC));have l1:g0+1<w5.heap.size:=a5.lt (AC);obtain⟨x0,x1,x2,x3,x4,x5,x6,x7,_⟩:=Ab (a5.kept _ (AC));obtain⟨z0,z1,z2,z3,z4,z5,z6,z7,z8,_⟩:=Ad (a5.kept _ (AH _ (AC)));have hC:=b0 l5 tabs _ w5 b4 h5 (b7 w5 a5.fw);go_wp2_with fail;refine hC.mono ?_;rcases hq:(gBlk (gSts el (indT tabs)) (indT tabs) el.isEmpty) with _ | u
 .rintro e w9 ⟨rfl,l9,a7,h9,ab⟩;refine⟨rfl,?_⟩;rw[a4.out,hq0,Option.bind_some,hq];exact⟨rfl,l9,a7,h9,a5.fw.trans ab⟩
 .rintro e w9 ⟨rfl,l9,aw,h9,ab⟩;go_wp2
  go_end0
  rw[a4.out,hq0,Option.bind_some,hq];exact⟨rfl,l9,by simpa using ((b5.trans av).trans b3).trans aw,h9,a5.fw.trans ab⟩
theorem Yn{base:Nat}  {n:AQ} {a c:GE} {bo el:List GS} {l:AQ} {tabs:Nat}   (hW:Wr base b l tabs w) (hx:IsGS (λ k=>k<base) w (.mk 2 n [a,c] bo el) cs) (b3:n.length<=maxLen) (b9:Dp base b a) (bd:Dp base b c) :
  AA 128 #[Bo b,.agg cs.toArray] w λ r w'=>WPost base b l tabs w (if gName n then (gE a).bind λ x=>(gE c).map λ y=>[115,101,116,32] ++ (n ++ ([91] ++ (x ++ ([93,32,61,32] ++ (y ++ [59]))))) else none) r w':=by
 obtain⟨res,a0⟩:∃res:Option (List UInt8),Aside (res=if gName n then (gE a).bind λ x=>(gE c).map λ y=>[115,101,116,32] ++ (n ++ ([91] ++ (x ++ ([93,32,61,32] ++ (y ++ [59]))))) else none):=⟨_,show _=_ from rfl⟩;rw[<-a0.out];rw[IsGS] at hx;obtain⟨x,y,p,f,s1,s2,s3,r1,r2,r3,rfl,ag,aj,ae,b4,ah,aq⟩:=hx;obtain⟨a1,q1,rfl,bc⟩:=ag.slice;obtain⟨a2,q2,rfl,b8⟩:=ae.slice;obtain⟨a3,q3,rfl,bb⟩:=ah.slice;have bh:∀w',FW base b w w'->B7 (λ k=>k<base) w' bo (.slice a2 bo.length q2):=λ w' hF=>⟨r2,ae.since hF.since,b4.since hF.since⟩
 have bj:∀w',FW base b w w'->B7 (λ k=>k<base) w' el (.slice a3 el.length q3):=λ w' hF=>⟨r3,ah.since hF.since,aq.since hF.since⟩
 have a8:=λ (q:Nat) (e:GE) (w':World) (hq:([a,c]:List GE)[q]?=some e) (hF:FW base b w w')=>Da ag aj hF hq
 obtain⟨g,o',u0,u1,u2,u3,u4,u5,u6,u7,rfl,hg,⟨e0,e1,e2,e3,e4,e5,e6,e7⟩,ai⟩:=a8 1 c w rfl (AY _ _ _);obtain⟨k1,o1,n1,t1,ad,aa,b1,m1,c1,p1,av⟩:=ai.shows;simp only[List.cons.injEq,and_true] at av;obtain⟨rfl,rfl,rfl,rfl,rfl,rfl,rfl,rfl⟩:=av;simp only[Nat.one_mul,Nat.add_assoc,Nat.reduceAdd] at e0 e1 e2 e3 e4 e5 e6 e7;have hE:=In.sboxes hW (gsBox 2 n x f y (sL g o' 2 q1) (.slice a2 bo.length q2) (.slice a3 el.length q3) p) #[iv k1,iv o1,iv n1,.string t1,iv ad,.string aa,.slice b1 m1 c1,iv p1];have be:∀w',FW base b w w'->IsGE (λ k=>k<base) w' c [iv k1,iv o1,iv n1,.string t1,iv ad,.string aa,.slice b1 m1 c1,iv p1]:=λ w' hF=>ai.since hF.since
 clear ag aj ae b4 ah aq bc b8 hW ai;unfold maxLen at bb;go_enter func128,ntmps128;go_wp2_with fail;refine (need_ok _).mono ?_;rintro e w1 ⟨rfl,rfl⟩;have hN:=Dn n;rcases hgn:gName n with _ | _
 .rw[hgn] at hN;go_wp2_with fail;generalize ((w.alloc (sBox (gsBox 2 n x f y (sL g o' 2 q1) (.slice a2 bo.length q2) (.slice a3 el.length q3) p))).alloc (xBox #[iv k1,iv o1,iv n1,.string t1,iv ad,.string aa,.slice b1 m1 c1,iv p1]))=w2 at *;generalize w.heap.size=g0 at *;have l0:g0<w2.heap.size:=hE.lt (AH _ (AC));have l1:g0+1<w2.heap.size:=hE.lt (AC);obtain⟨x0,x1,x2,x3,x4,x5,x6,x7,_⟩:=Ab (hE.kept _ (AC));obtain⟨z0,z1,z2,z3,z4,z5,z6,z7,z8,_⟩:=Ad (hE.kept _ (AH _ (AC)));refine (hN _ b3).mono ?_;rintro e w3 ⟨rfl,rfl⟩;refine⟨rfl,?_⟩;rw[a0.out,hgn];exact⟨rfl,l,tabs,hE.wr,hE.fw⟩
 have bi:=Cp hgn;rw[hgn] at hN;go_wp2_with fail;generalize ((w.alloc (sBox (gsBox 2 n x f y (sL g o' 2 q1) (.slice a2 bo.length q2) (.slice a3 el.length q3) p))).alloc (xBox #[iv k1,iv o1,iv n1,.string t1,iv ad,.string aa,.slice b1 m1 c1,iv p1]))=w2 at *;generalize w.heap.size=g0 at *;have l0:g0<w2.heap.size:=hE.lt (AH _ (AC));have l1:g0+1<w2.heap.size:=hE.lt (AC);obtain⟨x0,x1,x2,x3,x4,x5,x6,x7,_⟩:=Ab (hE.kept _ (AC));obtain⟨z0,z1,z2,z3,z4,z5,z6,z7,z8,_⟩:=Ad (hE.kept _ (AH _ (AC)));refine (hN _ b3).mono ?_;rintro e w2' ⟨rfl,rfl⟩;go_wp2_with fail;rw[So];refine (put_l hE.wr ([115,101,116,32] ++ n) (by simp;omega)).mono ?_;rintro e w3 ⟨rfl,l3,ba,h3,ar⟩;have a4:=hE.step h3 ar;clear l0 l1 x0 x1 x2 x3 x4 x5 x6 x7 z0 z1 z2 z3 z4 z5 z6 z7 z8 hN ar;have l0:g0<w3.heap.size:=a4.lt (AH _ (AC));have l1:g0+1<w3.heap.size:=a4.lt (AC);obtain⟨x0,x1,x2,x3,x4,x5,x6,x7,_⟩:=Ab (a4.kept _ (AC));obtain⟨z0,z1,z2,z3,z4,z5,z6,z7,z8,_⟩:=Ad (a4.kept _ (AH _ (AC)));obtain⟨g',bf,u0,u1,u2,u3,u4,u5,u6,u7,b0,bg,⟨ax,b5,ak,am,al,aw,ay,az⟩,a7⟩:=a8 0 a w3 rfl a4.fw;simp only[Option.some.injEq,Addr.mk.injEq,and_true] at b0;obtain⟨rfl,rfl⟩:=b0;simp only[Nat.zero_mul,Nat.add_zero] at ax b5 ak am al aw ay az;have au:=Jy b9 a4.wr a7;clear a7 e0 e1 e2 e3 e4 e5 e6 e7
 go_wp2_with fail
 refine au.mono ?_;rcases hq0:gE a with _ | x'
 .rintro e w4 ⟨rfl,l4,a9,h4,ab⟩;refine⟨rfl,?_⟩;rw[a0.out,hgn,if_pos rfl,hq0];exact⟨rfl,l4,a9,h4,a4.fw.trans ab⟩
 rintro e w4 ⟨rfl,l4,b6,h4,ab⟩;have a5:=a4.step h4 ab;clear l0 l1 x0 x1 x2 x3 x4 x5 x6 x7 z0 z1 z2 z3 z4 z5 z6 z7 z8 au ab ax b5 ak am al aw ay az;have l0:g0<w4.heap.size:=a5.lt (AH _ (AC));have l1:g0+1<w4.heap.size:=a5.lt (AC);obtain⟨x0,x1,x2,x3,x4,x5,x6,x7,_⟩:=Ab (a5.kept _ (AC));obtain⟨z0,z1,z2,z3,z4,z5,z6,z7,z8,_⟩:=Ad (a5.kept _ (AH _ (AC)));have hC:=Jz bd a5.wr (be w4 a5.fw);go_wp2_with fail;refine hC.mono ?_;rcases hq:gE c with _ | x
 .rintro e w9 ⟨rfl,l9,a6,h9,af⟩;refine⟨rfl,?_⟩;rw[a0.out,hgn,if_pos rfl,hq0,hq];exact⟨rfl,l9,a6,h9,a5.fw.trans af⟩
 .rintro e w9 ⟨rfl,l9,b7,h9,af⟩;go_wp2
  go_end0
  rw[a0.out,hgn,if_pos rfl,hq0,hq];exact⟨rfl,l9,by simpa using (ba.trans b6).trans b7,h9,a5.fw.trans af⟩
theorem Af4{base:Nat}  {n:AQ} {a:GE} {bo el:List GS} {l:AQ} {tabs:Nat}   (hW:Wr base b l tabs w) (hx:IsGS (λ k=>k<base) w (.mk 3 n [a] bo el) cs) (al:n.length<=maxLen) (av:Dp base b a) :
  AA 128 #[Bo b,.agg cs.toArray] w λ r w'=>WPost base b l tabs w (if gName n then (gE a).map λ x=>[100,101,108,32] ++ (n ++ ([91] ++ (x ++ [93,59]))) else none) r w':=by
 obtain⟨res,a0⟩:∃res:Option (List UInt8),Aside (res=if gName n then (gE a).map λ x=>[100,101,108,32] ++ (n ++ ([91] ++ (x ++ [93,59]))) else none):=⟨_,show _=_ from rfl⟩;rw[<-a0.out];rw[IsGS] at hx;obtain⟨x,y,p,f,s1,s2,s3,r1,r2,r3,rfl,ab,ag,aa,am,ad,ah⟩:=hx;obtain⟨a1,q1,rfl,az⟩:=ab.slice;obtain⟨a2,q2,rfl,ar⟩:=aa.slice;obtain⟨a3,q3,rfl,ay⟩:=ad.slice;have b3:∀w',FW base b w w'->B7 (λ k=>k<base) w' bo (.slice a2 bo.length q2):=λ w' hF=>⟨r2,aa.since hF.since,am.since hF.since⟩
 have b5:∀w',FW base b w w'->B7 (λ k=>k<base) w' el (.slice a3 el.length q3):=λ w' hF=>⟨r3,ad.since hF.since,ah.since hF.since⟩
 have af:=λ (q:Nat) (e:GE) (w':World) (hq:([a]:List GE)[q]?=some e) (hF:FW base b w w')=>Da ab ag hF hq
 obtain⟨g,o',u0,u1,u2,u3,u4,u5,u6,u7,rfl,hg,⟨e0,e1,e2,e3,e4,e5,e6,e7⟩,ae⟩:=af 0 a w rfl (AY _ _ _);obtain⟨k1,o1,n1,t1,a9,a7,b1,m1,c1,p1,ak⟩:=ae.shows;simp only[List.cons.injEq,and_true] at ak;obtain⟨rfl,rfl,rfl,rfl,rfl,rfl,rfl,rfl⟩:=ak;simp only[Nat.zero_mul,Nat.add_zero] at e0 e1 e2 e3 e4 e5 e6 e7;have hE:=In.sboxes hW (gsBox 3 n x f y (sL g o' 1 q1) (.slice a2 bo.length q2) (.slice a3 el.length q3) p) #[iv k1,iv o1,iv n1,.string t1,iv a9,.string a7,.slice b1 m1 c1,iv p1];have b0:∀w',FW base b w w'->IsGE (λ k=>k<base) w' a [iv k1,iv o1,iv n1,.string t1,iv a9,.string a7,.slice b1 m1 c1,iv p1]:=λ w' hF=>ae.since hF.since
 clear ab ag aa am ad ah az ar hW ae;unfold maxLen at ay;go_enter func128,ntmps128;go_wp2_with fail;refine (need_ok _).mono ?_;rintro e w1 ⟨rfl,rfl⟩;have hN:=Dn n;rcases hgn:gName n with _ | _
 .rw[hgn] at hN;go_wp2_with fail;generalize ((w.alloc (sBox (gsBox 3 n x f y (sL g o' 1 q1) (.slice a2 bo.length q2) (.slice a3 el.length q3) p))).alloc (xBox #[iv k1,iv o1,iv n1,.string t1,iv a9,.string a7,.slice b1 m1 c1,iv p1]))=w2 at *;generalize w.heap.size=g0 at *;have l0:g0<w2.heap.size:=hE.lt (AH _ (AC));have l1:g0+1<w2.heap.size:=hE.lt (AC);obtain⟨x0,x1,x2,x3,x4,x5,x6,x7,_⟩:=Ab (hE.kept _ (AC));obtain⟨z0,z1,z2,z3,z4,z5,z6,z7,z8,_⟩:=Ad (hE.kept _ (AH _ (AC)));refine (hN _ al).mono ?_;rintro e w3 ⟨rfl,rfl⟩;refine⟨rfl,?_⟩;rw[a0.out,hgn];exact⟨rfl,l,tabs,hE.wr,hE.fw⟩
 have b4:=Cp hgn;rw[hgn] at hN;go_wp2_with fail;generalize ((w.alloc (sBox (gsBox 3 n x f y (sL g o' 1 q1) (.slice a2 bo.length q2) (.slice a3 el.length q3) p))).alloc (xBox #[iv k1,iv o1,iv n1,.string t1,iv a9,.string a7,.slice b1 m1 c1,iv p1]))=w2 at *;generalize w.heap.size=g0 at *;have l0:g0<w2.heap.size:=hE.lt (AH _ (AC));have l1:g0+1<w2.heap.size:=hE.lt (AC);obtain⟨x0,x1,x2,x3,x4,x5,x6,x7,_⟩:=Ab (hE.kept _ (AC));obtain⟨z0,z1,z2,z3,z4,z5,z6,z7,z8,_⟩:=Ad (hE.kept _ (AH _ (AC)));refine (hN _ al).mono ?_;rintro e w2' ⟨rfl,rfl⟩;go_wp2_with fail;rw[So];refine (put_l hE.wr ([100,101,108,32] ++ n) (by simp;omega)).mono ?_;rintro e w3 ⟨rfl,l3,ax,h3,ai⟩;have a4:=hE.step h3 ai;clear l0 l1 x0 x1 x2 x3 x4 x5 x6 x7 z0 z1 z2 z3 z4 z5 z6 z7 z8 hN ai;have l0:g0<w3.heap.size:=a4.lt (AH _ (AC));have l1:g0+1<w3.heap.size:=a4.lt (AC);obtain⟨x0,x1,x2,x3,x4,x5,x6,x7,_⟩:=Ab (a4.kept _ (AC));obtain⟨z0,z1,z2,z3,z4,z5,z6,z7,z8,_⟩:=Ad (a4.kept _ (AH _ (AC)));have aj:=Jy av a4.wr (b0 w3 a4.fw);go_wp2_with fail;refine aj.mono ?_;rcases hq0:gE a with _ | x'
 .rintro e w4 ⟨rfl,l4,a6,h4,a8⟩;refine⟨rfl,?_⟩;rw[a0.out,hgn,if_pos rfl,hq0];exact⟨rfl,l4,a6,h4,a4.fw.trans a8⟩
 rintro e w4 ⟨rfl,l4,aq,h4,a8⟩;have a5:=a4.step h4 a8;clear l0 l1 x0 x1 x2 x3 x4 x5 x6 x7 z0 z1 z2 z3 z4 z5 z6 z7 z8 aj a8;have l0:g0<w4.heap.size:=a5.lt (AH _ (AC));have l1:g0+1<w4.heap.size:=a5.lt (AC);obtain⟨x0,x1,x2,x3,x4,x5,x6,x7,_⟩:=Ab (a5.kept _ (AC));obtain⟨z0,z1,z2,z3,z4,z5,z6,z7,z8,_⟩:=Ad (a5.kept _ (AH _ (AC)));go_wp2_with fail;refine (put_l a5.wr [59] (by simp)).mono ?_;rintro e w5 ⟨rfl,l5,aw,h5,au⟩;go_wp2
 go_end0
 rw[a0.out,hgn,if_pos rfl,hq0];exact⟨rfl,l5,by simpa using (ax.trans aq).trans aw,h5,a5.fw.trans au⟩
theorem Af7{base:Nat}  {n:AQ} {a:GE} {bo el:List GS} {l:AQ} {tabs:Nat}   (hW:Wr base b l tabs w) (hx:IsGS (λ k=>k<base) w (.mk 5 n [a] bo el) cs) (aj:n.length<=maxLen) (aq:Dp base b a) (hB:Mb base b bo) (hd:tabs+1+Ei bo<=1099511627776) :
  AA 128 #[Bo b,.agg cs.toArray] w λ r w'=>WPost base b l tabs w (if gName n then ((gE a).bind λ x=>(gBlk (gSts bo (indT tabs)) (indT tabs) bo.isEmpty).map λ y=>x ++ ([32] ++ y)).map λ z=>[102,111,114,32] ++ (n ++ ([32,116,111,32] ++ z)) else none) r w':=by
 obtain⟨res,a4⟩:∃res:Option (List UInt8),Aside (res=if gName n then ((gE a).bind λ x=>(gBlk (gSts bo (indT tabs)) (indT tabs) bo.isEmpty).map λ y=>x ++ ([32] ++ y)).map λ z=>[102,111,114,32] ++ (n ++ ([32,116,111,32] ++ z)) else none):=⟨_,show _=_ from rfl⟩;rw[<-a4.out];rw[IsGS] at hx;obtain⟨x,y,p,f,s1,s2,s3,r1,r2,r3,rfl,aa,af,a8,ak,ab,ag⟩:=hx;obtain⟨a1,q1,rfl,aw⟩:=aa.slice;obtain⟨a2,q2,rfl,am⟩:=a8.slice;obtain⟨a3,q3,rfl,av⟩:=ab.slice;have au:∀w',FW base b w w'->B7 (λ k=>k<base) w' bo (.slice a2 bo.length q2):=λ w' hF=>⟨r2,a8.since hF.since,ak.since hF.since⟩
 have az:∀w',FW base b w w'->B7 (λ k=>k<base) w' el (.slice a3 el.length q3):=λ w' hF=>⟨r3,ab.since hF.since,ag.since hF.since⟩
 have ae:=λ (q:Nat) (e:GE) (w':World) (hq:([a]:List GE)[q]?=some e) (hF:FW base b w w')=>Da aa af hF hq
 obtain⟨g,o',u0,u1,u2,u3,u4,u5,u6,u7,rfl,hg,⟨e0,e1,e2,e3,e4,e5,e6,e7⟩,ad⟩:=ae 0 a w rfl (AY _ _ _);obtain⟨k1,o1,n1,t1,a7,a6,b1,m1,c1,p1,ai⟩:=ad.shows;simp only[List.cons.injEq,and_true] at ai;obtain⟨rfl,rfl,rfl,rfl,rfl,rfl,rfl,rfl⟩:=ai;simp only[Nat.zero_mul,Nat.add_zero] at e0 e1 e2 e3 e4 e5 e6 e7;have hE:=In.sboxes hW (gsBox 5 n x f y (sL g o' 1 q1) (.slice a2 bo.length q2) (.slice a3 el.length q3) p) #[iv k1,iv o1,iv n1,.string t1,iv a7,.string a6,.slice b1 m1 c1,iv p1];have ax:∀w',FW base b w w'->IsGE (λ k=>k<base) w' a [iv k1,iv o1,iv n1,.string t1,iv a7,.string a6,.slice b1 m1 c1,iv p1]:=λ w' hF=>ad.since hF.since
 clear aa af a8 ak ab ag aw am hW ad;unfold maxLen at av;go_enter func128,ntmps128;go_wp2_with fail;refine (need_ok _).mono ?_;rintro e w1 ⟨rfl,rfl⟩;have hN:=Dn n;rcases hgn:gName n with _ | _
 .rw[hgn] at hN;go_wp2_with fail;generalize ((w.alloc (sBox (gsBox 5 n x f y (sL g o' 1 q1) (.slice a2 bo.length q2) (.slice a3 el.length q3) p))).alloc (xBox #[iv k1,iv o1,iv n1,.string t1,iv a7,.string a6,.slice b1 m1 c1,iv p1]))=w2 at *;generalize w.heap.size=g0 at *;have l0:g0<w2.heap.size:=hE.lt (AH _ (AC));have l1:g0+1<w2.heap.size:=hE.lt (AC);obtain⟨x0,x1,x2,x3,x4,x5,x6,x7,_⟩:=Ab (hE.kept _ (AC));obtain⟨z0,z1,z2,z3,z4,z5,z6,z7,z8,_⟩:=Ad (hE.kept _ (AH _ (AC)));refine (hN _ aj).mono ?_;rintro e w3 ⟨rfl,rfl⟩;refine⟨rfl,?_⟩;rw[a4.out,hgn];exact⟨rfl,l,tabs,hE.wr,hE.fw⟩
 have ay:=Cp hgn;rw[hgn] at hN;go_wp2_with fail;generalize ((w.alloc (sBox (gsBox 5 n x f y (sL g o' 1 q1) (.slice a2 bo.length q2) (.slice a3 el.length q3) p))).alloc (xBox #[iv k1,iv o1,iv n1,.string t1,iv a7,.string a6,.slice b1 m1 c1,iv p1]))=w2 at *;generalize w.heap.size=g0 at *;have l0:g0<w2.heap.size:=hE.lt (AH _ (AC));have l1:g0+1<w2.heap.size:=hE.lt (AC);obtain⟨x0,x1,x2,x3,x4,x5,x6,x7,_⟩:=Ab (hE.kept _ (AC));obtain⟨z0,z1,z2,z3,z4,z5,z6,z7,z8,_⟩:=Ad (hE.kept _ (AH _ (AC)));refine (hN _ aj).mono ?_;rintro e w2' ⟨rfl,rfl⟩;go_wp2_with fail;rw[So,So];refine (put_l hE.wr ([102,111,114,32] ++ n ++ [32,116,111,32]) (by simp;omega)).mono ?_;rintro e w3 ⟨rfl,l3,ar,h3,ah⟩;have a0:=hE.step h3 ah;clear l0 l1 x0 x1 x2 x3 x4 x5 x6 x7 z0 z1 z2 z3 z4 z5 z6 z7 z8 hN ah;have l0:g0<w3.heap.size:=a0.lt (AH _ (AC));have l1:g0+1<w3.heap.size:=a0.lt (AC);obtain⟨x0,x1,x2,x3,x4,x5,x6,x7,_⟩:=Ab (a0.kept _ (AC));obtain⟨z0,z1,z2,z3,z4,z5,z6,z7,z8,_⟩:=Ad (a0.kept _ (AH _ (AC)));have hC:=Ib aq hB hd a0.wr (ax w3 a0.fw) (au w3 a0.fw);go_wp2_with fail;refine hC.mono ?_;rcases hq:((gE a).bind λ x=>(gBlk (gSts bo (indT tabs)) (indT tabs) bo.isEmpty).map λ y=>x ++ ([32] ++ y)) with _ | z
 .rintro e w9 ⟨rfl,l9,a5,h9,a9⟩;refine⟨rfl,?_⟩;rw[a4.out,hgn,if_pos rfl,hq];exact⟨rfl,l9,a5,h9,a0.fw.trans a9⟩
 .rintro e w9 ⟨rfl,l9,al,h9,a9⟩;go_wp2
  go_end0
  rw[a4.out,hgn,if_pos rfl,hq];exact⟨rfl,l9,by simpa using ar.trans al,h9,a0.fw.trans a9⟩
theorem Af3{base:Nat}  {n:AQ} {a:GE} {bo el:List GS} {l:AQ} {tabs:Nat}   (hW:Wr base b l tabs w) (hx:IsGS (λ k=>k<base) w (.mk 1 n [a] bo el) cs) (aj:n.length<=maxLen) (aq:Dp base b a) :
  AA 128 #[Bo b,.agg cs.toArray] w λ r w'=>WPost base b l tabs w (if gName n then (gE a).map λ x=>[108,101,116,32] ++ (n ++ ([32,61,32] ++ (x ++ [59]))) else none) r w':=by
 obtain⟨res,a0⟩:∃res:Option (List UInt8),Aside (res=if gName n then (gE a).map λ x=>[108,101,116,32] ++ (n ++ ([32,61,32] ++ (x ++ [59]))) else none):=⟨_,show _=_ from rfl⟩;rw[<-a0.out];rw[IsGS] at hx;obtain⟨x,y,p,f,s1,s2,s3,r1,r2,r3,rfl,aa,af,a8,ak,ab,ag⟩:=hx;obtain⟨a1,q1,rfl,av⟩:=aa.slice;obtain⟨a2,q2,rfl,am⟩:=a8.slice;obtain⟨a3,q3,rfl,au⟩:=ab.slice;have ax:∀w',FW base b w w'->B7 (λ k=>k<base) w' bo (.slice a2 bo.length q2):=λ w' hF=>⟨r2,a8.since hF.since,ak.since hF.since⟩
 have az:∀w',FW base b w w'->B7 (λ k=>k<base) w' el (.slice a3 el.length q3):=λ w' hF=>⟨r3,ab.since hF.since,ag.since hF.since⟩
 have ae:=λ (q:Nat) (e:GE) (w':World) (hq:([a]:List GE)[q]?=some e) (hF:FW base b w w')=>Da aa af hF hq
 obtain⟨g,o',u0,u1,u2,u3,u4,u5,u6,u7,rfl,hg,⟨e0,e1,e2,e3,e4,e5,e6,e7⟩,ad⟩:=ae 0 a w rfl (AY _ _ _);obtain⟨k1,o1,n1,t1,a7,a6,b1,m1,c1,p1,ai⟩:=ad.shows;simp only[List.cons.injEq,and_true] at ai;obtain⟨rfl,rfl,rfl,rfl,rfl,rfl,rfl,rfl⟩:=ai;simp only[Nat.zero_mul,Nat.add_zero] at e0 e1 e2 e3 e4 e5 e6 e7;have hE:=In.sboxes hW (gsBox 1 n x f y (sL g o' 1 q1) (.slice a2 bo.length q2) (.slice a3 el.length q3) p) #[iv k1,iv o1,iv n1,.string t1,iv a7,.string a6,.slice b1 m1 c1,iv p1];have aw:∀w',FW base b w w'->IsGE (λ k=>k<base) w' a [iv k1,iv o1,iv n1,.string t1,iv a7,.string a6,.slice b1 m1 c1,iv p1]:=λ w' hF=>ad.since hF.since
 clear aa af a8 ak ab ag av am hW ad;unfold maxLen at au;go_enter func128,ntmps128;go_wp2_with fail;refine (need_ok _).mono ?_;rintro e w1 ⟨rfl,rfl⟩;have hN:=Dn n;rcases hgn:gName n with _ | _
 .rw[hgn] at hN;go_wp2_with fail;generalize ((w.alloc (sBox (gsBox 1 n x f y (sL g o' 1 q1) (.slice a2 bo.length q2) (.slice a3 el.length q3) p))).alloc (xBox #[iv k1,iv o1,iv n1,.string t1,iv a7,.string a6,.slice b1 m1 c1,iv p1]))=w2 at *;generalize w.heap.size=g0 at *;have l0:g0<w2.heap.size:=hE.lt (AH _ (AC));have l1:g0+1<w2.heap.size:=hE.lt (AC);obtain⟨x0,x1,x2,x3,x4,x5,x6,x7,_⟩:=Ab (hE.kept _ (AC));obtain⟨z0,z1,z2,z3,z4,z5,z6,z7,z8,_⟩:=Ad (hE.kept _ (AH _ (AC)));refine (hN _ aj).mono ?_;rintro e w3 ⟨rfl,rfl⟩;refine⟨rfl,?_⟩;rw[a0.out,hgn];exact⟨rfl,l,tabs,hE.wr,hE.fw⟩
 have ay:=Cp hgn;rw[hgn] at hN;go_wp2_with fail;generalize ((w.alloc (sBox (gsBox 1 n x f y (sL g o' 1 q1) (.slice a2 bo.length q2) (.slice a3 el.length q3) p))).alloc (xBox #[iv k1,iv o1,iv n1,.string t1,iv a7,.string a6,.slice b1 m1 c1,iv p1]))=w2 at *;generalize w.heap.size=g0 at *;have l0:g0<w2.heap.size:=hE.lt (AH _ (AC));have l1:g0+1<w2.heap.size:=hE.lt (AC);obtain⟨x0,x1,x2,x3,x4,x5,x6,x7,_⟩:=Ab (hE.kept _ (AC));obtain⟨z0,z1,z2,z3,z4,z5,z6,z7,z8,_⟩:=Ad (hE.kept _ (AH _ (AC)));refine (hN _ aj).mono ?_;rintro e w2' ⟨rfl,rfl⟩;go_wp2_with fail;rw[So];refine (put_l hE.wr ([108,101,116,32] ++ n) (by simp;omega)).mono ?_;rintro e w3 ⟨rfl,l3,ar,h3,ah⟩;have a4:=hE.step h3 ah;clear l0 l1 x0 x1 x2 x3 x4 x5 x6 x7 z0 z1 z2 z3 z4 z5 z6 z7 z8 hN ah;have l0:g0<w3.heap.size:=a4.lt (AH _ (AC));have l1:g0+1<w3.heap.size:=a4.lt (AC);obtain⟨x0,x1,x2,x3,x4,x5,x6,x7,_⟩:=Ab (a4.kept _ (AC));obtain⟨z0,z1,z2,z3,z4,z5,z6,z7,z8,_⟩:=Ad (a4.kept _ (AH _ (AC)));have hC:=Jz aq a4.wr (aw w3 a4.fw);go_wp2_with fail;refine hC.mono ?_;rcases hq:gE a with _ | x
 .rintro e w9 ⟨rfl,l9,a5,h9,a9⟩;refine⟨rfl,?_⟩;rw[a0.out,hgn,if_pos rfl,hq];exact⟨rfl,l9,a5,h9,a4.fw.trans a9⟩
 .rintro e w9 ⟨rfl,l9,al,h9,a9⟩;go_wp2
  go_end0
  rw[a0.out,hgn,if_pos rfl,hq];exact⟨rfl,l9,by simpa using ar.trans al,h9,a4.fw.trans a9⟩
theorem Ym{base:Nat}  {n:AQ} {a:GE} {bo el:List GS} {l:AQ} {tabs:Nat}   (hW:Wr base b l tabs w) (hx:IsGS (λ k=>k<base) w (.mk 2 n [a] bo el) cs) (aj:n.length<=maxLen) (aq:Dp base b a) :
  AA 128 #[Bo b,.agg cs.toArray] w λ r w'=>WPost base b l tabs w (if gName n then (gE a).map λ x=>[115,101,116,32] ++ (n ++ ([32,61,32] ++ (x ++ [59]))) else none) r w':=by
 obtain⟨res,a0⟩:∃res:Option (List UInt8),Aside (res=if gName n then (gE a).map λ x=>[115,101,116,32] ++ (n ++ ([32,61,32] ++ (x ++ [59]))) else none):=⟨_,show _=_ from rfl⟩;rw[<-a0.out];rw[IsGS] at hx;obtain⟨x,y,p,f,s1,s2,s3,r1,r2,r3,rfl,aa,af,a8,ak,ab,ag⟩:=hx;obtain⟨a1,q1,rfl,av⟩:=aa.slice;obtain⟨a2,q2,rfl,am⟩:=a8.slice;obtain⟨a3,q3,rfl,au⟩:=ab.slice;have ax:∀w',FW base b w w'->B7 (λ k=>k<base) w' bo (.slice a2 bo.length q2):=λ w' hF=>⟨r2,a8.since hF.since,ak.since hF.since⟩
 have az:∀w',FW base b w w'->B7 (λ k=>k<base) w' el (.slice a3 el.length q3):=λ w' hF=>⟨r3,ab.since hF.since,ag.since hF.since⟩
 have ae:=λ (q:Nat) (e:GE) (w':World) (hq:([a]:List GE)[q]?=some e) (hF:FW base b w w')=>Da aa af hF hq
 obtain⟨g,o',u0,u1,u2,u3,u4,u5,u6,u7,rfl,hg,⟨e0,e1,e2,e3,e4,e5,e6,e7⟩,ad⟩:=ae 0 a w rfl (AY _ _ _);obtain⟨k1,o1,n1,t1,a7,a6,b1,m1,c1,p1,ai⟩:=ad.shows;simp only[List.cons.injEq,and_true] at ai;obtain⟨rfl,rfl,rfl,rfl,rfl,rfl,rfl,rfl⟩:=ai;simp only[Nat.zero_mul,Nat.add_zero] at e0 e1 e2 e3 e4 e5 e6 e7;have hE:=In.sboxes hW (gsBox 2 n x f y (sL g o' 1 q1) (.slice a2 bo.length q2) (.slice a3 el.length q3) p) #[iv k1,iv o1,iv n1,.string t1,iv a7,.string a6,.slice b1 m1 c1,iv p1];have aw:∀w',FW base b w w'->IsGE (λ k=>k<base) w' a [iv k1,iv o1,iv n1,.string t1,iv a7,.string a6,.slice b1 m1 c1,iv p1]:=λ w' hF=>ad.since hF.since
 clear aa af a8 ak ab ag av am hW ad;unfold maxLen at au;go_enter func128,ntmps128;go_wp2_with fail;refine (need_ok _).mono ?_;rintro e w1 ⟨rfl,rfl⟩;have hN:=Dn n;rcases hgn:gName n with _ | _
 .rw[hgn] at hN;go_wp2_with fail;generalize ((w.alloc (sBox (gsBox 2 n x f y (sL g o' 1 q1) (.slice a2 bo.length q2) (.slice a3 el.length q3) p))).alloc (xBox #[iv k1,iv o1,iv n1,.string t1,iv a7,.string a6,.slice b1 m1 c1,iv p1]))=w2 at *;generalize w.heap.size=g0 at *;have l0:g0<w2.heap.size:=hE.lt (AH _ (AC));have l1:g0+1<w2.heap.size:=hE.lt (AC);obtain⟨x0,x1,x2,x3,x4,x5,x6,x7,_⟩:=Ab (hE.kept _ (AC));obtain⟨z0,z1,z2,z3,z4,z5,z6,z7,z8,_⟩:=Ad (hE.kept _ (AH _ (AC)));refine (hN _ aj).mono ?_;rintro e w3 ⟨rfl,rfl⟩;refine⟨rfl,?_⟩;rw[a0.out,hgn];exact⟨rfl,l,tabs,hE.wr,hE.fw⟩
 have ay:=Cp hgn;rw[hgn] at hN;go_wp2_with fail;generalize ((w.alloc (sBox (gsBox 2 n x f y (sL g o' 1 q1) (.slice a2 bo.length q2) (.slice a3 el.length q3) p))).alloc (xBox #[iv k1,iv o1,iv n1,.string t1,iv a7,.string a6,.slice b1 m1 c1,iv p1]))=w2 at *;generalize w.heap.size=g0 at *;have l0:g0<w2.heap.size:=hE.lt (AH _ (AC));have l1:g0+1<w2.heap.size:=hE.lt (AC);obtain⟨x0,x1,x2,x3,x4,x5,x6,x7,_⟩:=Ab (hE.kept _ (AC));obtain⟨z0,z1,z2,z3,z4,z5,z6,z7,z8,_⟩:=Ad (hE.kept _ (AH _ (AC)));refine (hN _ aj).mono ?_;rintro e w2' ⟨rfl,rfl⟩;go_wp2_with fail;rw[So];refine (put_l hE.wr ([115,101,116,32] ++ n) (by simp;omega)).mono ?_;rintro e w3 ⟨rfl,l3,ar,h3,ah⟩;have a4:=hE.step h3 ah;clear l0 l1 x0 x1 x2 x3 x4 x5 x6 x7 z0 z1 z2 z3 z4 z5 z6 z7 z8 hN ah;have l0:g0<w3.heap.size:=a4.lt (AH _ (AC));have l1:g0+1<w3.heap.size:=a4.lt (AC);obtain⟨x0,x1,x2,x3,x4,x5,x6,x7,_⟩:=Ab (a4.kept _ (AC));obtain⟨z0,z1,z2,z3,z4,z5,z6,z7,z8,_⟩:=Ad (a4.kept _ (AH _ (AC)));have hC:=Jz aq a4.wr (aw w3 a4.fw);go_wp2_with fail;refine hC.mono ?_;rcases hq:gE a with _ | x
 .rintro e w9 ⟨rfl,l9,a5,h9,a9⟩;refine⟨rfl,?_⟩;rw[a0.out,hgn,if_pos rfl,hq];exact⟨rfl,l9,a5,h9,a4.fw.trans a9⟩
 .rintro e w9 ⟨rfl,l9,al,h9,a9⟩;go_wp2
  go_end0
  rw[a0.out,hgn,if_pos rfl,hq];exact⟨rfl,l9,by simpa using ar.trans al,h9,a4.fw.trans a9⟩
theorem Af8{base:Nat}  {n:AQ} {a:GE} {bo el:List GS} {l:AQ} {tabs:Nat}   (hW:Wr base b l tabs w) (hx:IsGS (λ k=>k<base) w (.mk 6 n [a] bo el) cs) (au:Dp base b a) :
  AA 128 #[Bo b,.agg cs.toArray] w λ r w'=>WPost base b l tabs w ((gE a).map λ x=>[114,101,116,32] ++ (x ++ [59])) r w':=by
 obtain⟨res,a4⟩:∃res:Option (List UInt8),Aside (res=(gE a).map λ x=>[114,101,116,32] ++ (x ++ [59])):=⟨_,show _=_ from rfl⟩;rw[<-a4.out];rw[IsGS] at hx;obtain⟨x,y,p,f,s1,s2,s3,r1,r2,r3,rfl,a9,ag,a8,al,ab,ah⟩:=hx;obtain⟨a1,q1,rfl,ay⟩:=a9.slice;obtain⟨a2,q2,rfl,aq⟩:=a8.slice;obtain⟨a3,q3,rfl,ax⟩:=ab.slice;have b0:∀w',FW base b w w'->B7 (λ k=>k<base) w' bo (.slice a2 bo.length q2):=λ w' hF=>⟨r2,a8.since hF.since,al.since hF.since⟩
 have b3:∀w',FW base b w w'->B7 (λ k=>k<base) w' el (.slice a3 el.length q3):=λ w' hF=>⟨r3,ab.since hF.since,ah.since hF.since⟩
 have af:=λ (q:Nat) (e:GE) (w':World) (hq:([a]:List GE)[q]?=some e) (hF:FW base b w w')=>Da a9 ag hF hq
 obtain⟨g,o',u0,u1,u2,u3,u4,u5,u6,u7,rfl,hg,⟨e0,e1,e2,e3,e4,e5,e6,e7⟩,ad⟩:=af 0 a w rfl (AY _ _ _);obtain⟨k1,o1,n1,t1,ae,aa,b1,m1,c1,p1,ak⟩:=ad.shows;simp only[List.cons.injEq,and_true] at ak;obtain⟨rfl,rfl,rfl,rfl,rfl,rfl,rfl,rfl⟩:=ak;simp only[Nat.zero_mul,Nat.add_zero] at e0 e1 e2 e3 e4 e5 e6 e7;have hE:=In.sboxes hW (gsBox 6 n x f y (sL g o' 1 q1) (.slice a2 bo.length q2) (.slice a3 el.length q3) p) #[iv k1,iv o1,iv n1,.string t1,iv ae,.string aa,.slice b1 m1 c1,iv p1];have az:∀w',FW base b w w'->IsGE (λ k=>k<base) w' a [iv k1,iv o1,iv n1,.string t1,iv ae,.string aa,.slice b1 m1 c1,iv p1]:=λ w' hF=>ad.since hF.since
 clear a9 ag a8 al ab ah ay aq hW ad;unfold maxLen at ax;go_enter func128,ntmps128;go_wp2_with fail;refine (need_ok _).mono ?_;rintro e w1 ⟨rfl,rfl⟩;go_wp2_with fail;generalize ((w.alloc (sBox (gsBox 6 n x f y (sL g o' 1 q1) (.slice a2 bo.length q2) (.slice a3 el.length q3) p))).alloc (xBox #[iv k1,iv o1,iv n1,.string t1,iv ae,.string aa,.slice b1 m1 c1,iv p1]))=w2 at *;generalize w.heap.size=g0 at *;have l0:g0<w2.heap.size:=hE.lt (AH _ (AC));have l1:g0+1<w2.heap.size:=hE.lt (AC);obtain⟨x0,x1,x2,x3,x4,x5,x6,x7,_⟩:=Ab (hE.kept _ (AC));obtain⟨z0,z1,z2,z3,z4,z5,z6,z7,z8,_⟩:=Ad (hE.kept _ (AH _ (AC)));refine (put_l hE.wr [114,101,116,32] (by simp)).mono ?_;rintro e w3 ⟨rfl,l3,aw,h3,ai⟩;have a0:=hE.step h3 ai;clear l0 l1 x0 x1 x2 x3 x4 x5 x6 x7 z0 z1 z2 z3 z4 z5 z6 z7 z8 ai;have l0:g0<w3.heap.size:=a0.lt (AH _ (AC));have l1:g0+1<w3.heap.size:=a0.lt (AC);obtain⟨x0,x1,x2,x3,x4,x5,x6,x7,_⟩:=Ab (a0.kept _ (AC));obtain⟨z0,z1,z2,z3,z4,z5,z6,z7,z8,_⟩:=Ad (a0.kept _ (AH _ (AC)));have aj:=au.top a0.wr (az w3 a0.fw);go_wp2_with fail;refine aj.mono ?_;rcases hq0:gE a with _ | x'
 .rintro e w4 ⟨rfl,l4,a6,h4,a7⟩;refine⟨rfl,?_⟩;rw[a4.out,hq0];exact⟨rfl,l4,a6,h4,a0.fw.trans a7⟩
 rintro e w4 ⟨rfl,l4,am,h4,a7⟩;have a5:=a0.step h4 a7;clear l0 l1 x0 x1 x2 x3 x4 x5 x6 x7 z0 z1 z2 z3 z4 z5 z6 z7 z8 aj a7;have l0:g0<w4.heap.size:=a5.lt (AH _ (AC));have l1:g0+1<w4.heap.size:=a5.lt (AC);obtain⟨x0,x1,x2,x3,x4,x5,x6,x7,_⟩:=Ab (a5.kept _ (AC));obtain⟨z0,z1,z2,z3,z4,z5,z6,z7,z8,_⟩:=Ad (a5.kept _ (AH _ (AC)));go_wp2_with fail;refine (put_l a5.wr [59] (by simp)).mono ?_;rintro e w5 ⟨rfl,l5,av,h5,ar⟩;go_wp2
 go_end0
 rw[a4.out,hq0];exact⟨rfl,l5,by simpa using (aw.trans am).trans av,h5,a5.fw.trans ar⟩
theorem Yo{base:Nat}{k:Int}{n:AQ}{a:GE}{bo el:List GS}{l:AQ}{tabs:Nat}(hW:Wr base b l tabs w)(hx:IsGS (λ k=>k<base) w (.mk k n [a] bo el) cs)(hk:k≠1/\k≠2/\k≠3/\k≠4/\k≠5/\k≠6) :
  AA 128 #[Bo b,.agg cs.toArray] w λ r w'=>WPost base b l tabs w (none) r w':=by
 obtain⟨res,a0⟩:∃res:Option (List UInt8),Aside (res=none):=⟨_,show _=_ from rfl⟩;rw[<-a0.out];rw[IsGS] at hx;obtain⟨x,y,p,f,s1,s2,s3,r1,r2,r3,rfl,a5,ab,a4,af,a7,ad⟩:=hx;obtain⟨a1,q1,rfl,ai⟩:=a5.slice;obtain⟨a2,q2,rfl,ag⟩:=a4.slice;obtain⟨a3,q3,rfl,ah⟩:=a7.slice;have aq:∀w',FW base b w w'->B7 (λ k=>k<base) w' bo (.slice a2 bo.length q2):=λ w' hF=>⟨r2,a4.since hF.since,af.since hF.since⟩
 have ar:∀w',FW base b w w'->B7 (λ k=>k<base) w' el (.slice a3 el.length q3):=λ w' hF=>⟨r3,a7.since hF.since,ad.since hF.since⟩
 have aa:=λ (q:Nat) (e:GE) (w':World) (hq:([a]:List GE)[q]?=some e) (hF:FW base b w w')=>Da a5 ab hF hq
 obtain⟨g,o',u0,u1,u2,u3,u4,u5,u6,u7,rfl,hg,⟨e0,e1,e2,e3,e4,e5,e6,e7⟩,a8⟩:=aa 0 a w rfl (AY _ _ _);obtain⟨k1,o1,n1,t1,a9,a6,b1,m1,c1,p1,ae⟩:=a8.shows;simp only[List.cons.injEq,and_true] at ae;obtain⟨rfl,rfl,rfl,rfl,rfl,rfl,rfl,rfl⟩:=ae;simp only[Nat.zero_mul,Nat.add_zero] at e0 e1 e2 e3 e4 e5 e6 e7;have hE:=In.sboxes hW (gsBox k n x f y (sL g o' 1 q1) (.slice a2 bo.length q2) (.slice a3 el.length q3) p) #[iv k1,iv o1,iv n1,.string t1,iv a9,.string a6,.slice b1 m1 c1,iv p1];have av:∀w',FW base b w w'->IsGE (λ k=>k<base) w' a [iv k1,iv o1,iv n1,.string t1,iv a9,.string a6,.slice b1 m1 c1,iv p1]:=λ w' hF=>a8.since hF.since
 clear a5 ab a4 af a7 ad ai ag hW a8;unfold maxLen at ah;have aj:(k == 1)=false:=by simpa using hk.1
 have am:(k == 2)=false:=by simpa using hk.2.1
 have al:(k == 3)=false:=by simpa using hk.2.2.1
 have aw:(k == 4)=false:=by simpa using hk.2.2.2.1
 have ak:(k == 5)=false:=by simpa using hk.2.2.2.2.1
 have au:(k == 6)=false:=by simpa using hk.2.2.2.2.2
 clear hk;go_enter func128,ntmps128;go_wp2_with fail;refine (need_ok _).mono ?_;rintro e w1 ⟨rfl,rfl⟩;go_wp2_with fail;generalize ((w.alloc (sBox (gsBox k n x f y (sL g o' 1 q1) (.slice a2 bo.length q2) (.slice a3 el.length q3) p))).alloc (xBox #[iv k1,iv o1,iv n1,.string t1,iv a9,.string a6,.slice b1 m1 c1,iv p1]))=w2 at *;generalize w.heap.size=g0 at *;have l0:g0<w2.heap.size:=hE.lt (AH _ (AC));have l1:g0+1<w2.heap.size:=hE.lt (AC);obtain⟨x0,x1,x2,x3,x4,x5,x6,x7,_⟩:=Ab (hE.kept _ (AC));obtain⟨z0,z1,z2,z3,z4,z5,z6,z7,z8,_⟩:=Ad (hE.kept _ (AH _ (AC)));refine (need_no _).mono ?_;rintro e w3 ⟨rfl,rfl⟩;refine⟨rfl,?_⟩;rw[a0.out];exact⟨rfl,l,tabs,hE.wr,hE.fw⟩
end
end Go.Proofs.YtpckmjfabiallaaGreatDoor
