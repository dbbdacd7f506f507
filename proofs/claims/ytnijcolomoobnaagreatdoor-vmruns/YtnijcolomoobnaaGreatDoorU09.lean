/- Texts of ours, joined. -/
import Derived.Test.YtnijcolomoobnaaGreatDoorU06
set_option linter.unusedVariables false
set_option linter.unusedSimpArgs false
set_option maxRecDepth 100000
set_option maxHeartbeats 16000000
namespace Go.Proofs.YtnijcolomoobnaaGreatDoor
section
open Go.RowKit
attribute [local go_sem ↓] Go.wp_at_zero Go.wp_at_succ
def D7(w:World)(v:V)(r:Ending)(w':World):Prop:=(∃ao cap,r=.returned (.agg #[iv v.k,iv v.n,bz v.t,.slice ao v.l.length cap])∧IsW (From w.heap.size) w' v (.slice ao v.l.length cap)∧Gv (From w.heap.size) w' (.slice ao v.l.length cap) v.l)∧Below w.heap.size w w'
theorem Ah{P:Program}{ops:Array Oper}{Q:Exit->Act->World->Prop}{md:Region.Mode}{S:World->Prop}{N:Nat->Bool}{i:Nat}{oi:Oper}{v:Value}{f:Nat}{listed:Array Bool}{a:Act}{w:World}(d:Option Tmp)(W:Nat->Bool)(hi:ops[i]?=some oi)(hd:oi.dst=d)(hs:Region.noSelect ops=true)(hf:Region.free md ops listed i=true)(hr:(Region.ready md ops listed).contains i=true)(hl:R0 md ops N W listed i=true)(hWs:∀j,W j=true->j<ops.size)
  (hQ:∀c a w,Q (.panic c) (a.put oi.dst v) w->Q (.panic c) a w) (hw:Region.wanted oi (yielded ops a.tmps)=true) (hy:∀w,S w->(execOp a.eval oi).run P w=.ok (.value v) w) (hS:S w) (h:wpE P md ops Q S N f (listed.setIfInBounds i true) (a.put d v) w):wpE P md ops Q S N (f+1) listed a w:=B1 W hi hs hf hr hl hWs hQ hw hy hS (by rw[hd];exact h)
theorem Ab{P:Program}{ops:Array Oper}{Q:Exit->Act->World->Prop}{md:Region.Mode}{S:World->Prop}{N:Nat->Bool}{oi:Oper}{f:Nat}{listed:Array Bool}{a:Act}{w:World}(d:Option Tmp)(W:List Nat)(i:Nat)(v:Value)(hi:ops[i]?=some oi)(hd:oi.dst=d)(hb:(Region.noSelect ops && (Region.free md ops listed i && ((Region.ready md ops listed).contains i && (R0 md ops N (fun j=>W.contains j) listed i && W.all (fun j=>decide (j<ops.size))))))=true)(hQ:∀c a w,Q (.panic c) (a.put oi.dst v) w->Q (.panic c) a w)(hw:Region.wanted oi (yielded ops a.tmps)=true)(hy:∀w,S w->(execOp a.eval oi).run P w=.ok (.value v) w)(hS:S w)(h:wpE P md ops Q S N f (listed.setIfInBounds i true) (a.put d v) w):wpE P md ops Q S N (f+1) listed a w:=by
 obtain⟨hs,hb⟩:=Bool.and_eq_true_iff.1 hb;obtain⟨hf,hb⟩:=Bool.and_eq_true_iff.1 hb;obtain⟨hr,hb⟩:=Bool.and_eq_true_iff.1 hb;obtain⟨hl,hWs⟩:=Bool.and_eq_true_iff.1 hb;exact Ah d (fun j=>W.contains j) hi hd hs hf hr hl (fun j hj=>by have:=List.all_eq_true.1 hWs j (by simpa using hj);simpa using this) hQ hw hy hS h
theorem Ay{P:Program}{w:World}{o:Oper}{a:Act}{K:Act->World->Prop}{Q:Exit->Act->World->Prop}(s x:Operand)(t:TypeId)(ho:o.op=.call { callee:=.builtin .append,args:=#[s,x],argTypes:=#[t,t] })(v xv:Value)(hs:a.eval s=v)(hx:a.eval x=xv)(v':Value)(ww:World)(hr:(Builtin.append_ #[t,t] o.type #[v,xv]).run P w=.ok v' ww)(h:K (a.put o.dst v') ww):o.wp P a w K Q:=by
 unfold Oper.wp execOp;simp only[ho,resolve,invoke,builtin,Sem.run_bind,Sem.run_pure,Result.andThen_ok,List.map_toArray,List.map_cons,List.map_nil,hs,hx,hr];exact h
theorem Az:∀(N:Nat) (v:V) (sl:Value) (B:Nat->Prop) (w:World),wt v<N->wt v<=1000000->IsW B w v sl ->
  Calls Tryz.prog 17 #[.agg #[iv v.k,iv v.n,bz v.t,sl]] w fun r w'=>D7 w v r w':=by
 intro N;induction N with
 | zero=>intro v sl B w h;omega
 | succ N ih=>
  intro v sl B w hN hbig hv;obtain⟨ao,cap,rfl,hc1,hc2⟩:=hv.vs.slice;have hwt:=Bw v;have hlen:=A4 v.l;obtain⟨w0,hW,hb0,hsz,d0,d1,d2,d3⟩:=Aw w v (.slice ao v.l.length cap);obtain⟨w1,hW1,hb1,hsz1,hr⟩:=G5 w0;rw[hsz] at hr;have hB1:Below w.heap.size w w1:=hb0.trans (hb1.mono (by omega));have hs1:w1.heap.size=w.heap.size+2:=by omega
  obtain⟨f1,-⟩:=Ag hb1;rw[<-f1 w.heap.size _ (by omega)] at d0 d1 d2 d3;clear f1 hsz1;obtain⟨wz,hWz,hbz,hszz,hrz⟩:=G5 w1;rw[hs1] at hrz;obtain⟨y0,y1,y2,y3,z0,z1,z2,z3,hzz⟩:=hrz wz (Below.refl _ _);obtain⟨w2,hW2⟩:∃w2,Cx wz (w.heap.size+2) (iv v.k) (iv v.n) (bz v.t) sZ=w2:=⟨_,rfl⟩;have hb2:Below w1.heap.size w1 w2:=by rw[<-hW2];exact Aj hbz (by omega) _ _ _ _
  have hs2:w2.heap.size=w.heap.size+3:=by rw[<-hW2,D3];omega
  have hblk2:w2.heap[w.heap.size+2]?=some (.cells #[iv v.k,iv v.n,bz v.t,sZ] 31 (0,0)):=by rw[<-hW2];exact E0 (by rw[<-hs1];exact E1 hWz (Below.refl _ _)) _ _ _ _
  have d3':w2.cell? ⟨w.heap.size,3,none⟩=some (.slice ao v.l.length cap):=((Ag hb2).1 _ _ (by omega)).trans d3;clear hrz;have IH:Hid (∀(v:V) (sl:Value) (B:Nat->Prop) (w:World),wt v<N->wt v<=1000000->IsW B w v sl->Calls Tryz.prog 17 #[.agg #[iv v.k,iv v.n,bz v.t,sl]] w fun r w'=>D7 w v r w'):=ih;clear ih;go_enter Tryz.func17,Tryz.ntmps17;go_wp2_with fail;have hBn:Below w1.heap.size w1 w2:=hb2;have hround:∀(q:Nat) (wr:World),q<v.l.length->Below w1.heap.size w1 wr ->
    ∃x g o ax cx wx,v.l[q]?=some x∧ao=some ⟨g,o,none⟩∧g<wr.heap.size∧wr.cell? ⟨g,o+q*4,none⟩=some (iv x.k)∧wr.cell? ⟨g,o+q*4+1,none⟩=some (iv x.n)∧wr.cell? ⟨g,o+q*4+2,none⟩=some (bz x.t)∧wr.cell? ⟨g,o+q*4+3,none⟩=some (.slice ax x.l.length cx) ∧
     wr.alloc (.cells #[iv x.k,iv x.n,bz x.t,.slice ax x.l.length cx] 31)=wx∧Below wr.heap.size wr wx∧wx.heap.size=wr.heap.size+1∧wx.cell? ⟨wr.heap.size,0,none⟩=some (iv x.k)∧wx.cell? ⟨wr.heap.size,1,none⟩=some (iv x.n)∧wx.cell? ⟨wr.heap.size,2,none⟩=some (bz x.t)∧wx.cell? ⟨wr.heap.size,3,none⟩=some (.slice ax x.l.length cx) ∧
     ∀w2,Below wx.heap.size wx w2->Calls Tryz.prog 17 #[.agg #[iv x.k,iv x.n,bz x.t,.slice ax x.l.length cx]] w2 fun r w'=>D7 w2 x r w':=by
   intro q wr hq hB;have hx:v.l[q]?=some v.l[q]:=List.getElem?_eq_getElem hq;have hBw:Below w.heap.size w wr:=hB1.trans (hB.mono (by omega));obtain⟨g,o,ax,cx,e,_,hg,c0,c1,c2,c3,hw⟩:=(hv.vs.below hBw).get hx;obtain⟨wx,hWx,hbx,hsx,x0,x1,x2,x3⟩:=Aw wr v.l[q] (.slice ax v.l[q].l.length cx);refine⟨v.l[q],g,o,ax,cx,wx,hx,e,hg,c0,c1,c2,c3,hWx,hbx,hsx,x0,x1,x2,x3,fun w2 hb2=>?_⟩;have:=Df hx;exact IH.out _ _ B w2 (by omega) (by omega) ((hw.below hbx).below hb2)
  have hvr:Hid (v.t.length<=maxLen∧InR v.k∧InR v.n):=⟨hv.txt,hv.kr,hv.nr⟩;clear hv IH y0 y1 y2 y3 z0 z1 z2 z3 hzz d0 d1 d2 d3
  go_loopg [16] v.l.length (fun g i wr=>∃(q:Nat) (sa:Option Addr) (sc:Nat),q<=v.l.length∧g=v.l.length - q∧i=iv q∧Hid (Below w1.heap.size w1 wr∧wr.heap[w.heap.size+2]?=some (.cells #[iv v.k,iv v.n,bz v.t,.slice sa q sc] 31 (0,0))∧Gv (From (w.heap.size+3)) wr (.slice sa q sc) (v.l.take q)))
  case atStart=>exact⟨0,none,0,Nat.zero_le _,rfl,rfl,hBn,hblk2,Gv.nil _ _⟩
  case round=>
   obtain⟨q,sa,sc,hq,rfl,rfl,HR⟩:=hrel;have hBr:Below w1.heap.size w1 wr:=HR.out.1;have hbr:=HR.out.2.1;have hGr:=HR.out.2.2;have hlq:(v.l.take q).length=q:=by simp;omega
   have hg3r:w.heap.size+2<wr.heap.size:=(Array.getElem?_eq_some_iff.1 hbr).1;obtain⟨t0,t1,t2,t3,-⟩:=Aa hbr;clear hBn hblk2 hb2 hW2 hWz hbz hszz d3' hs2;by_cases hlt:q<v.l.length
   ·obtain⟨x,g,o,ax,cx,wx,hx,rfl,hg,c0,c1,c2,c3,hWx,hbx,hsx,x0,x1,x2,x3,hcall⟩:=hround q wr hlt hBr;have hltI:(q:Int)<(v.l.length:Int):=by omega
    have hq0:(0:Int)<=(q:Int):=by omega
    have hx':Hid (v.l[q]?=some x):=hx;have tx3:wx.cell? ⟨w.heap.size+2,3,none⟩=some (.slice sa q sc):=((Ag hbx).1 _ _ hg3r).trans t3;have hlr:wr.heap.size<wx.heap.size:=by omega
    have hg3x:w.heap.size+2<wx.heap.size:=by omega
    clear hround hx hr HR t0 t1 t2 t3;go_wp2_with fail;refine wpE_begin (S:=fun w'=>w'.cell? ⟨w.heap.size+2,3,none⟩=some (.slice sa q sc)∧w'.cell? ⟨wr.heap.size,0,none⟩=some (iv x.k)∧w'.cell? ⟨wr.heap.size,1,none⟩=some (iv x.n)∧w'.cell? ⟨wr.heap.size,2,none⟩=some (bz x.t)∧w'.cell? ⟨wr.heap.size,3,none⟩=some (.slice ax x.l.length cx)) (N:=fun j=>decide (j<5)) (by kernel_rfl) ?_;have hS0:wx.drew.cell? ⟨w.heap.size+2,3,none⟩=some (.slice sa q sc)∧wx.drew.cell? ⟨wr.heap.size,0,none⟩=some (iv x.k)∧wx.drew.cell? ⟨wr.heap.size,1,none⟩=some (iv x.n)∧wx.drew.cell? ⟨wr.heap.size,2,none⟩=some (bz x.t)∧wx.drew.cell? ⟨wr.heap.size,3,none⟩=some (.slice ax x.l.length cx):=⟨tx3,x0,x1,x2,x3⟩;refine Ab (some 20) [1,5,6,7] 0 (pt (w.heap.size+2) 3) rfl rfl (by kernel_rfl) (fun _ _ _ h=>h) rfl (by intro w hS;(try dsimp only at hS);go_split_ands;go_simp) hS0 ?_
    try simp only[aP]
    refine Ab (some 21) [5,6,7] 1 (.slice sa q sc) rfl rfl (by kernel_rfl) (fun _ _ _ h=>h) rfl (by intro w hS;(try dsimp only at hS);go_split_ands;go_simp) hS0 ?_
    try simp only[aP]
    refine Ab (some 22) [3,4,5,6,7] 2 (.agg #[iv x.k,iv x.n,bz x.t,.slice ax x.l.length cx]) rfl rfl (by kernel_rfl) (fun _ _ _ h=>h) rfl (by intro w hS;(try dsimp only at hS);go_split_ands;go_simp) hS0 ?_
    try simp only[aP]
    refine Ac (i:=3) (by kernel_rfl) rfl rfl (fun K hK=>?_);go_simp;refine (hcall _ (Below.refl _ _).drew).mono ?_;rintro e w6 ⟨⟨ay,cy,rfl,hx6,-⟩,hb6⟩;replace hb6:Below wx.heap.size wx w6:=Ad hb6;have k0:=((Ag hb6).1 _ 3 hg3x).trans tx3;have k1:=((Ag hb6).1 _ 0 hlr).trans x0;have k2:=((Ag hb6).1 _ 1 hlr).trans x1;have k3:=((Ag hb6).1 _ 2 hlr).trans x2;have k4:=((Ag hb6).1 _ 3 hlr).trans x3;refine hK _ _ (fun _=>⟨k0,k1,k2,k3,k4⟩) ?_;clear hK K hcall
    try simp only[aP]
    obtain⟨wa,hWa⟩:∃wa,w6.alloc (.cells #[iv x.k,iv x.n,bz x.t,.slice ay x.l.length cy] 31)=wa:=⟨_,rfl⟩;have hba:Below w6.heap.size w6 wa:=by rw[<-hWa];exact (Below.refl _ _).alloc (Nat.le_refl _) _
    have hblka:wa.heap[w6.heap.size]?=some (.cells #[iv x.k,iv x.n,bz x.t,.slice ay x.l.length cy] 31):=by rw[<-hWa];exact Ai _ _
    have hsx6:=hb6.size;have ka:=(Ag hba).1;have hsa:wa.heap.size=w6.heap.size+1:=by rw[<-hWa];simp
    refine Ac (i:=4) (by kernel_rfl) rfl rfl (fun K hK=>?_);go_simp;refine hK _ _ (fun _=>⟨(ka _ _ (by omega)).trans k0,(ka _ _ (by omega)).trans k1,(ka _ _ (by omega)).trans k2,(ka _ _ (by omega)).trans k3,(ka _ _ (by omega)).trans k4⟩) ?_;clear hK K
    try simp only[aP]
    have hGx:Gv (From (w.heap.size+3)) wx (.slice sa q sc) (v.l.take q):=hGr.below hbx;have hG6:Gv (From (w.heap.size+3)) w6 (.slice sa q sc) (v.l.take q):=hGx.below hb6;have hGa:Gv (From (w.heap.size+3)) wa (.slice sa q sc) (v.l.take q):=hG6.below hba;have hwx3:w.heap.size+3<=wx.heap.size:=by omega
    obtain⟨g7,c7,w7,hr7,hG7,hb7,-,-⟩:=hGa.push (l2:=[x]) (ad:=⟨w6.heap.size,0,none⟩) (by simp) (by simp) (World.news_of_block hblka) (An.one (At.2 ⟨_,rfl,(hx6.below hba).base (B':=fun k=>From (w.heap.size+3) k∧(Value.slice sa q sc).ownBlock≠some k) (fun k h1 _=>by have h2:wx.heap.size<=k:=h1;exact⟨by show w.heap.size+3<=k;omega,hGx.apart h2⟩)⟩)) (by rw[hlq];simp;omega) (fun k hk=>by show w.heap.size+3<=k;omega) 1 22;replace hb7:Below (w.heap.size+3) wa w7:=hb7 _ (by omega) (fun k hk=>hk);rw[hlq] at hr7 hG7;refine Ac (i:=5) (by kernel_rfl) rfl rfl (fun K hK=>?_);refine Ay _ _ 22 rfl _ _ rfl rfl _ _ hr7 ?_;refine hK _ _ (fun h=>by cases h) ?_;clear hK K
    try simp only[aP]
    have hbr7:w7.heap[w.heap.size+2]?=some (.cells #[iv v.k,iv v.n,bz v.t,.slice sa q sc] 31 (0,0)):=by
     rw[hb7.block _ (by omega),hba.block _ (by omega),hb6.block _ (by omega),hbx.block _ (by omega)];exact hbr
    obtain⟨m0,m1,m2,m3,n0,n1,n2,n3⟩:=Aa hbr7;refine Ac (i:=6) (by kernel_rfl) rfl rfl (fun K hK=>?_);go_simp;refine hK _ _ (fun h=>by cases h) ?_;clear hK K
    try simp only[aP]
    refine Ac (i:=7) (by kernel_rfl) rfl rfl (fun K hK=>?_);go_simp;refine hK _ _ (fun h=>by cases h) ?_;clear hK K
    try simp only[aP]
    refine Am (by kernel_rfl) ?_;obtain⟨w8,hW8⟩:∃w8,w7.setCell ⟨w.heap.size+2,3,none⟩ (sL g7 0 (q+1) c7)=w8:=⟨_,rfl⟩;have hnew:Hid (Below w1.heap.size w1 w8∧w8.heap[w.heap.size+2]?=some (.cells #[iv v.k,iv v.n,bz v.t,sL g7 0 (q+1) c7] 31 (0,0))∧Gv (From (w.heap.size+3)) w8 (sL g7 0 (q+1) c7) (v.l.take (q+1))):=by
     have hbs:=hBr.size;refine⟨?_,?_,?_⟩
     ·rw[<-hW8];exact ((hBr.trans ((hbx.trans ((hb6.trans (hba.mono hb6.size)).mono hbx.size)).mono hBr.size)).trans (hb7.mono (by omega))).setCell (p:=⟨w.heap.size+2,3,none⟩) (by show w1.heap.size<=w.heap.size+2;omega) _
     ·rw[<-hW8];exact E2 hbr7 _
     ·rw[List.take_add_one,hx'.out,<-hW8];refine Gv.since hG7 ⟨by simp[World.setCell],fun k h1 _=>Below.heap_setCell _ _ _ _ ?_⟩;show k≠w.heap.size+2;have:w.heap.size+3<=k:=h1;omega
    rw[hW8];clear hG7 hGa hG6 hGx hx6 hb6 hb7 hba hr7 k0 k1 k2 k3 k4 m0 m1 m2 m3 n0 n1 n2 n3 hW8;simp only[Exit.inBlock,Exit.then];refine ‹∀(a:Act) (w:World),_->_› _ _ ?_;go_wp2_with fail;go_roundg (v.l.length - (q+1))
    case measure=>omega
    case rel=>exact⟨q+1,some ⟨g7,0,none⟩,c7,by omega,rfl,by go_num,hnew⟩
   ·have hltI:¬(q:Int)<(v.l.length:Int):=by omega
    obtain⟨r0,r1,r2,r3,s0,s1,s2,s3,hz⟩:=hr wr (by exact hBr);obtain rfl:q=v.l.length:=by omega
    have hfin:D7 w v (.returned (.agg #[iv v.k,iv v.n,bz v.t,.slice sa v.l.length sc])) (Cx wr (w.heap.size+1) (iv v.k) (iv v.n) (bz v.t) (.slice sa v.l.length sc)):=by
     refine⟨⟨sa,sc,rfl,⟨hvr.out.1,hvr.out.2.1,hvr.out.2.2,?_⟩,?_⟩,Aj (hB1.trans (hBr.mono (by omega))) (by omega) _ _ _ _⟩
     ·have h1:=hGr.vs;rw[List.take_length] at h1;exact (h1.since (Ba (by show ¬(w.heap.size+3<=w.heap.size+1);omega) _ _ _ _)).base (fun k hk _=>by show w.heap.size<=k;have:w.heap.size+3<=k:=hk;omega)
     ·have h1:=hGr;rw[List.take_length] at h1;exact (h1.since (Ba (by show ¬(w.heap.size+3<=w.heap.size+1);omega) _ _ _ _)).base (fun k hk _=>by show w.heap.size<=k;have:w.heap.size+3<=k:=hk;omega)
    clear hround hr HR hGr;go_wp2_with fail;exact bodyPost_ret (v:=.agg #[iv v.k,iv v.n,bz v.t,.slice sa v.l.length sc]) (by simp[results,Tryz.results17,go_sem,hz,r0,r1,r2,r3]) rfl hfin
end
section
open Go.RowKit
def Br(w:World)(o:V × Int)(r:Ending)(w':World):Prop:=(∃ao cap,r=.returned (.tuple #[.agg #[iv o.1.k,iv o.1.n,.string ⟨o.1.t.toArray⟩,.slice ao o.1.l.length cap],iv o.2])∧IsW (From w.heap.size) w' o.1 (.slice ao o.1.l.length cap))∧Below w.heap.size w w'
def Dz(w:World)(o:V × Int)(r:Ending)(w':World):Prop:=(∃ao cap,r=.returned (.tuple #[.agg #[iv o.1.k,iv o.1.n,.string ⟨o.1.t.toArray⟩,.slice ao o.1.l.length cap],iv o.2])∧IsW (From w.heap.size) w' o.1 (.slice ao o.1.l.length cap)∧Wf (From w.heap.size) 1000001 w' (.slice ao o.1.l.length cap))∧Below w.heap.size w w'
theorem Dz.out{w w':World}{o:V × Int}{r:Ending}(h:Dz w o r w'):Br w o r w':=by
 obtain⟨⟨a,c,h1,h2,_⟩,h3⟩:=h;exact⟨⟨a,c,h1,h2⟩,h3⟩
theorem Cv{B:Nat->Prop}{w:World}:IsW B w V.zero sZ:=⟨Nat.zero_le _,by constructor <;> decide,by constructor <;> decide,Al.nil⟩
theorem C5{w w':World}{e:Int}(hb:Below w.heap.size w w'):Dz w (V.zero,e) (.returned (.tuple #[.agg #[iv 0,iv 0,.string ⟨#[]⟩,sZ],iv e])) w':=⟨⟨none,0,rfl,Cv,Wf.nil (by unfold maxLen;omega)⟩,hb⟩
theorem Bk{w w':World}{e:Int}(hb:Below w.heap.size w w'):Br w (V.zero,e) (.returned (.tuple #[.agg #[iv 0,iv 0,.string ⟨#[]⟩,sZ],iv e])) w':=⟨⟨none,0,rfl,Cv⟩,hb⟩
theorem F6{B:Nat->Prop}{v:V}{ao:Option Addr}{cap:Nat}{w:World}(hv:IsW B w v (.slice ao v.l.length cap))(hw:wt v<=1000000) :
  Calls Tryz.prog 96 #[.agg #[iv v.k,iv v.n,bz v.t,.slice ao v.l.length cap]] w fun r w'=>Dz w (wgV v) r w':=by
 obtain⟨w0,hW,hb0,hsz,d0,d1,d2,d3⟩:=Aw w v (.slice ao v.l.length cap);obtain⟨w1,hW1,hb1,hsz1,hr⟩:=G5 w0;rw[hsz] at hr;have hs1:w1.heap.size=w.heap.size+2:=by omega
 have hB1:Below w.heap.size w w1:=hb0.trans (hb1.mono (by omega));obtain⟨f1,-⟩:=Ag hb1;rw[<-f1 w.heap.size _ (by omega)] at d0 d1 d2 d3;clear f1 hsz1;have hWt:=Il _ v _ B w1 (Nat.lt_succ_self _) (by omega) (hv.below hB1);have hCp:∀w2,Below w1.heap.size w1 w2->Calls Tryz.prog 32 #[.agg #[iv v.k,iv v.n,bz v.t,.slice ao v.l.length cap]] w2 fun r w'=>Jk 1000001 w2 v r w':=fun w2 hb2=>Dl 1000001 v _ B w2 (by omega) hw ((hv.below hB1).below hb2)
 clear hv;have hgb:w.heap.size<w1.heap.size:=by omega
 by_cases hle:wt v<=16384
 ·have hI:¬(16384:Int)<(wt v:Int):=by omega
  have hfin:Hid (wgV v=(v,0)):=by show _=_;unfold wgV;rw[if_pos hle]
  generalize wt v=n at *;go_enter Tryz.func96,Tryz.ntmps96;go_wp2_with fail;refine hWt.mono ?_;rintro e w2 ⟨rfl,hb2⟩;have e0:=((Ag hb2).1 _ 0 hgb).trans d0;have e1:=((Ag hb2).1 _ 1 hgb).trans d1;have e2:=((Ag hb2).1 _ 2 hgb).trans d2;have e3:=((Ag hb2).1 _ 3 hgb).trans d3;clear hWt hW hW1 d0 d1 d2 d3;go_wp2_with fail;refine (hCp w2 hb2).mono ?_;rintro e w3 ⟨⟨a3,c3,rfl,hx3,hz3⟩,hb3⟩;have hw13:Below w1.heap.size w1 w3:=hb2.trans (hb3.mono hb2.size);obtain⟨r0,r1,r2,r3,s0,s1,s2,s3,hz⟩:=hr w3 hw13;have hsz2:=hb2.size;have hres:Dz w (wgV v) (.returned (.tuple #[.agg #[iv v.k,iv v.n,bz v.t,.slice a3 v.l.length c3],iv 0])) (Cx w3 (w.heap.size+1) (iv v.k) (iv v.n) (bz v.t) (.slice a3 v.l.length c3)):=by
   rw[hfin.out];exact⟨⟨a3,c3,rfl,(hx3.since (Ba (by show ¬(w2.heap.size<=w.heap.size+1);omega) _ _ _ _)).base (fun k hk _=>by show w.heap.size<=k;have:w2.heap.size<=k:=hk;omega),(hz3.since (Ba (by show ¬(w2.heap.size<=w.heap.size+1);omega) _ _ _ _)).base (fun k hk _=>by show w.heap.size<=k;have:w2.heap.size<=k:=hk;omega)⟩,Aj (hB1.trans (hw13.mono (by omega))) (by omega) _ _ _ _⟩
  clear hr hCp hx3 hz3 e0 e1 e2 e3;go_wp2_with fail;exact bodyPost_ret (v:=.tuple #[.agg #[iv v.k,iv v.n,bz v.t,.slice a3 v.l.length c3],iv 0]) (by simp[results,Tryz.results96,go_sem,hz,r0,r1,r2,r3]) rfl hres
 ·have hI:(16384:Int)<(wt v:Int):=by omega
  have hfin:Hid (wgV v=(V.zero,53)):=by show _=_;unfold wgV;rw[if_neg hle]
  generalize wt v=n at *;go_enter Tryz.func96,Tryz.ntmps96;go_wp2_with fail;refine hWt.mono ?_;rintro e w2 ⟨rfl,hb2⟩;obtain⟨r0,r1,r2,r3,s0,s1,s2,s3,hz⟩:=hr w2 hb2;have hres:=C5 (e:=53) (Aj (hB1.trans (hb2.mono (by omega))) (g:=w.heap.size+1) (by omega) (iv 0) (iv 0) (.string ⟨#[]⟩) sZ);rw[<-hfin.out] at hres;clear hr hCp hWt hW hW1;go_wp2_with fail;exact bodyPost_ret (v:=.tuple #[.agg #[iv 0,iv 0,.string ⟨#[]⟩,sZ],iv 53]) (by simp[results,Tryz.results96,go_sem,hz,r0,r1,r2,r3]) rfl hres
theorem Ta{B B':Nat->Prop}{w:World}{g:Nat}{x:V}{sx:Value}(h:w.heap[g]?=some (.cells #[iv x.k,iv x.n,bz x.t,sx] 31))(hx:IsW B w x sx)(hb:∀k,B k->k<w.heap.size->B' k)(hg:B' g):Al B' w [x] (sL g 0 1 1):=by
 refine⟨_,⟨?_,Or.inr ⟨g,0,1,rfl,Nat.le_refl _,by unfold maxLen;omega,hg,(Array.getElem?_eq_some_iff.1 h).1,fun j u hj=>?_⟩⟩,An.one (At.2 ⟨sx,rfl,hx.base hb⟩)⟩
 ·rfl
 ·rw[cell_block h,Nat.zero_add];simpa using hj
theorem Fc(w:World)(a:V)(sa:Value)(b:V)(sb:Value):∃w0 w1 w2,w.alloc (.cells #[iv a.k,iv a.n,bz a.t,sa] 31)=w0∧w0.alloc (.cells #[iv b.k,iv b.n,bz b.t,sb] 31)=w1∧w1.alloc (.cells #[iv 0,iv 0,.string ⟨#[]⟩,sZ] 31)=w2∧w0.heap.size=w.heap.size+1∧w1.heap.size=w.heap.size+2∧w2.heap.size=w.heap.size+3∧Below w.heap.size w w2 ∧
  (∀w3,Below w2.heap.size w2 w3->w3.cell? ⟨w.heap.size,0,none⟩=some (iv a.k)∧w3.cell? ⟨w.heap.size,1,none⟩=some (iv a.n)∧w3.cell? ⟨w.heap.size,2,none⟩=some (bz a.t)∧w3.cell? ⟨w.heap.size,3,none⟩=some sa ∧
   w3.cell? ⟨w.heap.size+1,0,none⟩=some (iv b.k)∧w3.cell? ⟨w.heap.size+1,1,none⟩=some (iv b.n)∧w3.cell? ⟨w.heap.size+1,2,none⟩=some (bz b.t)∧w3.cell? ⟨w.heap.size+1,3,none⟩=some sb) ∧
  (∀w3,Below w2.heap.size w2 w3->w3.cell? ⟨w.heap.size+2,0,none⟩=some (iv 0)∧w3.cell? ⟨w.heap.size+2,1,none⟩=some (iv 0)∧w3.cell? ⟨w.heap.size+2,2,none⟩=some (.string ⟨#[]⟩)∧w3.cell? ⟨w.heap.size+2,3,none⟩=some sZ ∧
   w3.frozen? ⟨w.heap.size+2,0,none⟩=false∧w3.frozen? ⟨w.heap.size+2,1,none⟩=false∧w3.frozen? ⟨w.heap.size+2,2,none⟩=false∧w3.frozen? ⟨w.heap.size+2,3,none⟩=false∧w.heap.size+2<w3.heap.size):=by
 obtain⟨w0,w1,hW,hW1,hs0,hs1,hB,d0,d1,d2,d3,e0,e1,e2,e3⟩:=Dn w a sa b sb;obtain⟨w2,hW2,hb2,hsz2,hr⟩:=G5 w1;rw[hs1] at hr;have hc:∀w3,Below w2.heap.size w2 w3->∀b o,b<w1.heap.size->w3.cell? ⟨b,o,none⟩=w1.cell? ⟨b,o,none⟩:=fun w3 h b o hb=>((Ag h).1 b o (by omega)).trans ((Ag hb2).1 b o hb)
 refine⟨w0,w1,w2,hW,hW1,hW2,hs0,hs1,by omega,hB.trans (hb2.mono hB.size),fun w3 h=>?_,hr⟩;have c:=hc w3 h;exact⟨(c _ _ (by omega)).trans d0,(c _ _ (by omega)).trans d1,(c _ _ (by omega)).trans d2,(c _ _ (by omega)).trans d3,(c _ _ (by omega)).trans e0,(c _ _ (by omega)).trans e1,(c _ _ (by omega)).trans e2,(c _ _ (by omega)).trans e3⟩
theorem Br.stored{w w2 w3:World}{o:V × Int}{ao:Option Addr}{cap:Nat}{g:Nat}(hx:IsW (From w2.heap.size) w3 o.1 (.slice ao o.1.l.length cap))(hb:Below w.heap.size w w3)(hg:w.heap.size<=g)(hg2:g<w2.heap.size) :
  Br w o (.returned (.tuple #[.agg #[iv o.1.k,iv o.1.n,.string ⟨o.1.t.toArray⟩,.slice ao o.1.l.length cap],iv o.2])) (Cx w3 g (iv o.1.k) (iv o.1.n) (.string ⟨o.1.t.toArray⟩) (.slice ao o.1.l.length cap)):=
 ⟨⟨ao,cap,rfl,(hx.since (Ba (by show ¬(w2.heap.size<=g);omega) _ _ _ _)).base (fun k hk _=>by show w.heap.size<=k;have:w2.heap.size<=k:=hk;omega)⟩,Aj hb hg _ _ _ _⟩
theorem Dz.stored{w w2 w3:World}{o:V × Int}{ao:Option Addr}{cap:Nat}{g:Nat}(hx:IsW (From w2.heap.size) w3 o.1 (.slice ao o.1.l.length cap))(hb:Below w.heap.size w w3)(hg:w.heap.size<=g)(hg2:g<w2.heap.size)(hz:Wf (From w2.heap.size) 1000001 w3 (.slice ao o.1.l.length cap)) :
  Dz w o (.returned (.tuple #[.agg #[iv o.1.k,iv o.1.n,.string ⟨o.1.t.toArray⟩,.slice ao o.1.l.length cap],iv o.2])) (Cx w3 g (iv o.1.k) (iv o.1.n) (.string ⟨o.1.t.toArray⟩) (.slice ao o.1.l.length cap)):=
 ⟨⟨ao,cap,rfl,(hx.since (Ba (by show ¬(w2.heap.size<=g);omega) _ _ _ _)).base (fun k hk _=>by show w.heap.size<=k;have:w2.heap.size<=k:=hk;omega),(hz.since (Ba (by show ¬(w2.heap.size<=g);omega) _ _ _ _)).base (fun k hk _=>by show w.heap.size<=k;have:w2.heap.size<=k:=hk;omega)⟩,Aj hb hg _ _ _ _⟩
theorem L7(l:List V)(x:V):spl l l.length l.length [x]=l ++ [x]:=by simp[spl]
theorem Qe{B:Nat->Prop}{v x:V}{ao ax:Option Addr}{cap cx:Nat}{w:World}(hv:IsW B w v (.slice ao v.l.length cap))(hx:IsW B w x (.slice ax x.l.length cx))(hwv:wt v<=400000)(hwx:wt x<=400000) :
  Calls Tryz.prog 61 #[.agg #[iv v.k,iv v.n,bz v.t,.slice ao v.l.length cap],.agg #[iv x.k,iv x.n,bz x.t,.slice ax x.l.length cx]] w fun r w'=>Dz w (pushV v x) r w':=by
 obtain⟨ao',cap',e,c1,c2⟩:=hv.vs.slice;simp only[Value.slice.injEq] at e;obtain⟨rfl,-,rfl⟩:=e;obtain⟨w0,w1,w2,hW,hW1,hW2,hs0,hs1,hs2,hB2,hc,hr⟩:=Fc w v (.slice ao v.l.length cap) x (.slice ax x.l.length cx);obtain⟨a0,a1,a2,a3,b0,b1,b2,b3⟩:=hc w2 (Below.refl _ _);by_cases hk:v.k=4
 ·have hk':(v.k != 4)=false:=by simp[hk]
  by_cases h64:64<=v.l.length
  ·have h64I:(64:Int)<=(v.l.length:Int):=by omega
   have hfin:pushV v x=(V.zero,53):=by unfold pushV;rw[if_neg (by simp[hk]),if_pos h64]
   obtain⟨r0,r1,r2,r3,s0,s1,s2,s3,hz⟩:=hr w2 (Below.refl _ _);have hres:=C5 (e:=53) (Aj hB2 (g:=w.heap.size+2) (by omega) (iv 0) (iv 0) (.string ⟨#[]⟩) sZ);rw[<-hfin] at hres;clear hr hc hv hx hk hfin;go_enter Tryz.func61,Tryz.ntmps61;go_wp2_with fail;exact bodyPost_ret (v:=.tuple #[.agg #[iv 0,iv 0,.string ⟨#[]⟩,sZ],iv 53]) (by simp[results,Tryz.results61,go_sem,hz,r0,r1,r2,r3]) rfl hres
  ·have h64I:¬(64:Int)<=(v.l.length:Int):=by omega
   have hfin:Hid (pushV v x=wgV (.mk v.k v.n v.t (v.l ++ [x]))):=by show _=_;unfold pushV;rw[if_neg (by simp[hk]),if_neg h64]
   obtain⟨wa,hWa⟩:∃wa,w2.alloc (.cells #[iv x.k,iv x.n,bz x.t,.slice ax x.l.length cx] 31)=wa:=⟨_,rfl⟩;have hba:Below w2.heap.size w2 wa:=by rw[<-hWa];exact (Below.refl _ _).alloc (Nat.le_refl _) _
   have hblk:wa.heap[w.heap.size+3]?=some (.cells #[iv x.k,iv x.n,bz x.t,.slice ax x.l.length cx] 31):=by rw[<-hWa,<-hs2];exact Ai _ _
   have hsa:wa.heap.size=w.heap.size+4:=by rw[<-hWa];simp[hs2]
   have hBa:Below w.heap.size w wa:=hB2.trans (hba.mono hB2.size);have hone:Al (fun k=>B k∨k=w.heap.size+3) wa [x] (sL (w.heap.size+3) 0 1 1):=Ta hblk (hx.below hBa) (fun k h _=>Or.inl h) (Or.inr rfl);have hwts:=Bw v;have hlv:=A4 v.l;have hSp:=E4 (f:=v.l.length) (t:=v.l.length) ((hv.below hBa).base (B':=fun k=>B k∨k=w.heap.size+3) (fun k h _=>Or.inl h)) hone (Nat.le_refl _) (Nat.le_refl _) (by rw[L7];simp;omega);rw[L7] at hSp;have hwt2:wt (.mk v.k v.n v.t (v.l ++ [x]))<=1000000:=by
    rw[H4,Bl];simp only[wts];omega
   have hvr:=(⟨hv.txt,hv.kr,hv.nr⟩:v.t.length<=maxLen∧InR v.k∧InR v.n);clear hc hv hx hk hone;go_enter Tryz.func61,Tryz.ntmps61;go_wp2_with fail;refine hSp.mono ?_;rintro e w4 ⟨⟨a4,c4,rfl,h4⟩,hb4⟩;have hWg:=F6 (v:=.mk v.k v.n v.t (v.l ++ [x])) (w:=w4) (ao:=a4) (cap:=c4) ⟨hvr.1,hvr.2.1,hvr.2.2,h4⟩ hwt2;clear hSp;replace hWg:Calls Tryz.prog 96 #[.agg #[iv v.k,iv v.n,bz v.t,.slice a4 (v.l.length+1) c4]] w4 fun r w'=>Dz w4 (pushV v x) r w':=by
    rw[hfin.out];have e:((V.mk v.k v.n v.t (v.l ++ [x])).l).length=v.l.length+1:=by simp[V.l]
    rw[e] at hWg;exact hWg
   clear hfin h4;go_wp2_with fail;refine hWg.mono ?_;rintro e w5 ⟨⟨a5,c5,rfl,h5,hz5⟩,hb5⟩;clear hWg;obtain⟨o,HO⟩:∃o,Hid (pushV v x=o):=⟨_,rfl⟩;rw[HO.out] at h5 hz5;rw[HO.out];have hb25:Below w2.heap.size w2 w5:=(hba.trans (hb4.mono hba.size)).trans (hb5.mono (by have:=hba.size;have:=hb4.size;omega));obtain⟨r0,r1,r2,r3,s0,s1,s2,s3,hz⟩:=hr w5 hb25;have hs4:=hb4.size;have hres:=Dz.stored h5 (hB2.trans (hb25.mono hB2.size)) (g:=w.heap.size+2) (by omega) (by omega) hz5;clear hr h5 hz5;go_wp2_with fail;exact bodyPost_ret (v:=.tuple #[.agg #[iv o.1.k,iv o.1.n,.string ⟨o.1.t.toArray⟩,.slice a5 o.1.l.length c5],iv o.2]) (by simp[results,Tryz.results61,go_sem,hz,r0,r1,r2,r3]) rfl (by rw[HO.out];exact hres)
 ·have hk':(v.k != 4)=true:=by simp[hk]
  have hfin:pushV v x=(V.zero,40):=by unfold pushV;rw[if_pos hk]
  obtain⟨r0,r1,r2,r3,s0,s1,s2,s3,hz⟩:=hr w2 (Below.refl _ _);have hres:=C5 (e:=40) (Aj hB2 (g:=w.heap.size+2) (by omega) (iv 0) (iv 0) (.string ⟨#[]⟩) sZ);rw[<-hfin] at hres;clear hr hc hv hx hk hfin;go_enter Tryz.func61,Tryz.ntmps61;go_wp2_with fail;exact bodyPost_ret (v:=.tuple #[.agg #[iv 0,iv 0,.string ⟨#[]⟩,sZ],iv 40]) (by simp[results,Tryz.results61,go_sem,hz,r0,r1,r2,r3]) rfl hres
theorem Tb{B:Nat->Prop}{v x:V}{ao ax:Option Addr}{cap cx:Nat}{w:World}(hv:IsW B w v (.slice ao v.l.length cap))(hx:IsW B w x (.slice ax x.l.length cx))(hwv:wt v<=400000)(hwx:wt x<=400000) :
  Calls Tryz.prog 61 #[.agg #[iv v.k,iv v.n,bz v.t,.slice ao v.l.length cap],.agg #[iv x.k,iv x.n,bz x.t,.slice ax x.l.length cx]] w fun r w'=>Br w (pushV v x) r w':=(Qe hv hx hwv hwx).mono fun e w' h=>h.out
end
end Go.Proofs.YtnijcolomoobnaaGreatDoor
