/- Texts of ours, joined. -/
import Derived.Test.YtnijcolomoobnaaGreatDoorU20
import Derived.Test.YtnijcolomoobnaaGreatDoorU25
import Derived.Test.YtnijcolomoobnaaGreatDoorU16
set_option linter.unusedVariables false
set_option linter.unusedSimpArgs false
set_option maxRecDepth 100000
set_option maxHeartbeats 16000000
namespace Go.Proofs.YtnijcolomoobnaaGreatDoor
section
open Go.RowKit
theorem Bg.out{x:V × Int}{w w':World}{r:Ending}(h:Bg x w r w')(hx:x.1.l=[])(hk:InR x.1.k)(hn:InR x.1.n)(ht:x.1.t.length<=maxLen):Br w x r w':=by
 obtain⟨rfl,hb⟩:=h;refine⟨⟨none,0,by rw[hx];rfl,?_⟩,hb⟩;refine⟨ht,hk,hn,?_⟩;rw[hx];exact Al.nil
theorem Yh{op a b:Int}(ha:InR a)(hb:InR b):InR (arZ op a b).1:=by
 have h0:InR 0:=by unfold InR;omega
 unfold arZ;split
 ·exact Ly _
 split
 ·exact Ly _
 split
 ·exact Ly _
 split
 ·split
  ·exact h0
  ·exact Ly _
 split
 ·split
  ·exact h0
  ·show InR (a.tmod b);unfold InR at *;have:=Int.natAbs_tmod a b;have h2:(a.tmod b).natAbs<=a.natAbs:=by rw[this];exact Nat.mod_le _ _
   by_cases hp:0<=a
   ·have:=Int.tmod_nonneg b hp;omega
   ·have h3:0<=(-a).tmod b:=Int.tmod_nonneg b (by omega);rw[Int.neg_tmod] at h3;omega
 ·exact h0
theorem It{op:Int}{a b:V}(ha:InR a.n)(hb:InR b.n)(hta:a.t.length<=256)(htb:b.t.length<=256):(binV op a b).1.l=[]∧InR (binV op a b).1.k∧InR (binV op a b).1.n∧(binV op a b).1.t.length<=maxLen:=by
 have hr:∀n:Int,0<=n->n<=100->InR n:=fun n h1 h2=>by unfold InR;omega
 have hbv:∀b:Bool,(bV' b).l=[]∧InR (bV' b).k∧InR (bV' b).n∧(bV' b).t.length<=maxLen:=fun b=>by
  refine⟨rfl,hr 2 (by omega) (by omega),?_,by unfold maxLen;simp[V.t]⟩;cases b
  ·exact hr 0 (by omega) (by omega)
  ·exact hr 1 (by omega) (by omega)
 have hz:zV.l=[]∧InR zV.k∧InR zV.n∧zV.t.length<=maxLen:=⟨rfl,hr 0 (by omega) (by omega),hr 0 (by omega) (by omega),by unfold maxLen;simp[V.t]⟩;unfold binV;split
 ·exact hbv _
 split
 ·exact hbv _
 split
 ·exact hz
 split
 ·exact hbv _
 split
 ·split
  ·exact⟨rfl,hr 1 (by omega) (by omega),Yh ha hb,by unfold maxLen;simp[V.t]⟩
  ·exact hz
 split
 ·split
  ·refine⟨rfl,hr 3 (by omega) (by omega),hr 0 (by omega) (by omega),?_⟩;show (a.t ++ b.t).length<=maxLen;rw[List.length_append];unfold maxLen;omega
  ·exact hz
 ·exact hz
theorem Iu{a:V}:(negV a).1.l=[]∧InR (negV a).1.k∧InR (negV a).1.n∧(negV a).1.t.length<=maxLen:=by
 have hr:∀n:Int,0<=n->n<=100->InR n:=fun n h1 h2=>by unfold InR;omega
 have hz:zV.l=[]∧InR zV.k∧InR zV.n∧zV.t.length<=maxLen:=⟨rfl,hr 0 (by omega) (by omega),hr 0 (by omega) (by omega),by unfold maxLen;simp[V.t]⟩;unfold negV;split
 ·split
  ·exact⟨rfl,hr 1 (by omega) (by omega),Ly _,by unfold maxLen;simp[V.t]⟩
  ·exact hz
 ·exact hz
theorem Snd.tidy{v:V}(h:Snd v):Et v:=fun h5=>by
 obtain⟨k,n,t,l⟩:=v;have h2:=h.2;rw[Bd] at h2;exact⟨(h2.2.2.2.2.2.1 h5).2.1,(h2.2.2.2.2.2.1 h5).1⟩
theorem Snd.txt{v:V}(h:Snd v):v.t.length<=256:=by
 obtain⟨k,n,t,l⟩:=v;have h2:=h.2;rw[Bd] at h2;show t.length<=256;by_cases h3:k=3
 ·exact h2.2.2.2.2.2.2.2.1 h3
 ·rw[h2.2.2.1 h3];simp
end
section
open Go.RowKit
attribute [local go_sem ↓] Go.wp_at_zero Go.wp_at_succ
def fsz:List Fu->Nat
 | []=>0
 | f :: r=>1+f.code.length+fsz r
theorem Po:∀a b:List Fu,fsz (a ++ b)=fsz a+fsz b
 | [],b=>by simp[fsz]
 | f :: r,b=>by simp[fsz,Po r b];omega
theorem T5{l:List Fu}{q:Nat}{f:Fu}(h:l[q]?=some f):fsz (l.take (q+1))=fsz (l.take q)+(1+f.code.length):=by
 rw[List.take_add_one,h,Po];rfl
theorem Pp:∀l:List Fu,l.length<=fsz l
 | []=>Nat.le_refl _
 | f :: r=>by have:=Pp r;simp[fsz];omega
theorem Pq:∀{l:List Fu} {f:Fu},f∈l->1+f.code.length<=fsz l
 | a :: r,f,h=>by
  rw[fsz];rcases List.mem_cons.1 h with rfl | h
  ·omega
  ·have:=Pq h;omega
structure Fit(m:Md):Prop where
 wt:∀v∈m.consts,wt v<=4611686018427387904
 cl:m.consts.length<=900000
 fl:m.funcs.length<=900000
 kl:∀f∈m.funcs,f.code.length<=900000
noncomputable def Ge (v:V):Bool:=(ctype v).isEmpty
theorem Mq{B:Nat->Prop}{v:V}{ao:Option Addr}{cap:Nat}{w:World}(hv:IsW B w v (.slice ao v.l.length cap))(hw:wt v<=4611686018427387904) :
  Calls Tryz.prog 119 #[.agg #[iv v.k,iv v.n,bz v.t,.slice ao v.l.length cap]] w fun r w'=>r=.returned (.bool (Ge v))∧Below w.heap.size w w':=by
 obtain⟨w0,hW,hb0,hsz,d0,d1,d2,d3⟩:=Aw w v (.slice ao v.l.length cap);have hC:=Qu (hv.below hb0) hw;unfold Ge;clear hv hsz;go_enter Tryz.func119,Tryz.ntmps119;go_wp2_with fail;refine hC.mono ?_;rintro e w3 ⟨rfl,hb3⟩;clear hC;go_wp2;go_ret;exact⟨rfl,hb0.trans (hb3.mono hb0.size)⟩
theorem K7{B:Nat->Prop}{l:List V}{ao:Option Addr}{cap:Nat}{w:World}(hl:Al B w l (.slice ao l.length cap))(hwt:∀v∈l,wt v<=4611686018427387904) :
  Calls Tryz.prog 114 #[.slice ao l.length cap,.func (Fn.func 119) #[] #[]] w fun r w'=>(∃i:Int,r=.returned (iv i)∧decide (0<=i)=l.any Ge)∧Below w.heap.size w w':=by
 obtain⟨ao',cap',e,a1,a2⟩:=hl.slice;simp only[Value.slice.injEq] at e;obtain⟨rfl,-,rfl⟩:=e;have hround:∀(q:Nat) (wr:World),q<l.length->Below w.heap.size w wr ->
   ∃x g o ax cx,l[q]?=some x∧ao=some ⟨g,o,none⟩∧g<wr.heap.size∧wr.cell? ⟨g,o+q*4,none⟩=some (iv x.k)∧wr.cell? ⟨g,o+q*4+1,none⟩=some (iv x.n)∧wr.cell? ⟨g,o+q*4+2,none⟩=some (bz x.t)∧wr.cell? ⟨g,o+q*4+3,none⟩=some (.slice ax x.l.length cx) ∧
    Calls Tryz.prog 119 #[.agg #[iv x.k,iv x.n,bz x.t,.slice ax x.l.length cx]] wr fun r w'=>r=.returned (.bool (Ge x))∧Below wr.heap.size wr w':=by
  intro q wr hq hB;have hx:l[q]?=some l[q]:=List.getElem?_eq_getElem hq;obtain⟨g,o,ax,cx,e,_,hg1,c0,c1,c2,c3,hw⟩:=(hl.below hB).get hx;exact⟨l[q],g,o,ax,cx,hx,e,hg1,c0,c1,c2,c3,Mq hw (hwt _ (List.mem_of_getElem? hx))⟩
 clear hl hwt;go_enter Tryz.func114,Tryz.ntmps114;go_wp2_with fail
 go_loopg [8] l.length (fun g i wr=>∃q:Nat,q<=l.length∧g=l.length - q∧i=iv q∧Hid (∀j x,j<q->l[j]?=some x->Ge x=false)∧Below w.heap.size w wr)
 case atStart=>exact⟨0,Nat.zero_le _,rfl,rfl,fun j x h=>by omega,Below.refl _ _⟩
 case round=>
  obtain⟨q,hq,rfl,rfl,HA,hB⟩:=hrel;by_cases hlt:q<l.length
  ·obtain⟨x,g,o,ax,cx,hx,rfl,hg,c0,c1,c2,c3,hcall⟩:=hround q wr hlt hB;have hltI:(q:Int)<(l.length:Int):=by omega
   have hx':Hid (l[q]?=some x):=hx;clear hround hx;go_wp2_with fail;refine hcall.mono ?_;rintro e w3 ⟨rfl,hb3⟩;clear hcall;have hB3:Below w.heap.size w w3:=hB.trans (hb3.mono hB.size);rcases hp:Ge x with _ | _
   rotate_left
   ·have hfin:Hid (decide (0<=(q:Int))=l.any Ge):=by
     show _=_;rw[decide_eq_true (by omega)];symm;rw[List.any_eq_true];exact⟨x,List.mem_of_getElem? hx'.out,by simp[hp]⟩
    go_wp2;go_ret;exact⟨⟨q,rfl,hfin⟩,hB3⟩
   ·have HA2:Hid (∀j x,j<q+1->l[j]?=some x->Ge x=false):=by
     intro j z hj hz;by_cases e:j=q
     ·subst e;rw[hx'.out] at hz;cases hz;exact hp
     ·exact HA.out j z (by omega) hz
    go_wp2_with fail
    go_roundg (l.length - (q+1))
    case measure=>omega
    case rel=>exact⟨q+1,by omega,rfl,by go_num,HA2,hB3⟩
  ·have hltI:¬(q:Int)<(l.length:Int):=by omega
   have hfin:Hid (decide (0<=(-1:Int))=l.any Ge):=by
    show _=_;rw[decide_eq_false (by omega)];symm;rw[List.any_eq_false];intro x hx;obtain⟨j,hj⟩:=List.mem_iff_getElem?.1 hx;have:=(List.getElem?_eq_some_iff.1 hj).1;simp[HA.out j x (by omega) hj]
   clear hround HA;go_wp2;go_ret;exact⟨⟨-1,rfl,hfin⟩,hB⟩
theorem Qw{B:Nat->Prop}{l:List V}{ao:Option Addr}{cap:Nat}{w:World}(hl:Al B w l (.slice ao l.length cap))(hwt:∀v∈l,wt v<=4611686018427387904) :
  Calls Tryz.prog 76 #[.slice ao l.length cap,.func (Fn.func 119) #[] #[]] w fun r w'=>r=.returned (.bool (l.any Ge))∧Below w.heap.size w w':=by
 have hC:=K7 hl hwt;clear hl hwt;go_enter Tryz.func76,Tryz.ntmps76;go_wp2_with fail;refine hC.mono ?_;rintro e w3 ⟨⟨i,rfl,hi⟩,hb3⟩;clear hC;have Hi:Hid (decide (0<=i)=l.any Ge):=hi;clear hi;go_wp2;go_ret;exact⟨ret_bool Hi.out,hb3⟩
structure Sm15(m:Md)(states args:List V):Prop where
 f:fsz m.funcs<=1024
 v:fsz m.funcs+wts m.consts+wts states+wts args<=16384
def Xz(m:Md)(states args:List V)(w:World)(r:Ending)(w':World):Prop:=(∃b:Bool,r=.returned (.bool b)∧(b=false->Sm15 m states args))∧Below w.heap.size w w'
def sm15(m:Md)(states args:List V)(q:Nat):Nat:=fsz m.funcs+(if 0<q then wts m.consts else 0)+(if 1<q then wts states else 0)+(if 2<q then wts args else 0)
def li15(m:Md)(states args:List V)(q:Nat):List V:=if q=0 then m.consts else if q=1 then states else args
theorem Q5{m:Md}{states args:List V}{q:Nat}(h:q<3):sm15 m states args (q+1)=sm15 m states args q+wts (li15 m states args q):=by
 have hc:q=0∨q=1∨q=2:=by omega
 rcases hc with rfl | rfl | rfl <;> simp[sm15,li15] <;> omega
theorem X0:(Tryz.prog.info? 22).map (fun i=>(i.zero,i.size,i.bytes))=some (some sZ,1,24):=by kernel_rfl
theorem But.low{g:Nat}{w w2 wr:World}(h:But g w2 wr)(hb:Below w.heap.size w w2)(hg:w.heap.size<=g):Below w.heap.size w wr:=⟨h.os.trans hb.os,h.tape.trans hb.tape,h.output.trans hb.output,Nat.le_trans hb.size h.size,fun k hk=>(h.block k (Nat.lt_of_lt_of_le hk hb.size) (by omega)).trans (hb.block k hk)⟩
theorem M1{B:Nat->Prop}{m:Md}{ac af as_ aa:Option Addr}{cc cf cs_ ca gl:Nat}{states args:List V}{w:World}(hm:IsMd B w m (.slice ac m.consts.length cc) (.slice af m.funcs.length cf))(hs:Al B w states (.slice as_ states.length cs_))(ha:Al B w args (.slice aa args.length ca))(hgl:w.heap[gl]?=some (.cells #[.slice as_ states.length cs_,.slice aa args.length ca] 22 (0,0)))(hz:SzM m)(hzs:Ee states)(hza:Ee args) :
  Calls Tryz.prog 8 #[.agg #[.slice ac m.consts.length cc,.slice af m.funcs.length cf],sL gl 0 2 2] w (Xz m states args w):=by
 obtain⟨w1,hW1,hb1,hl1,hx1⟩:=Dq w (.slice ac m.consts.length cc) (.slice af m.funcs.length cf) 25;obtain⟨wq,hWq⟩:∃wq,w1.alloc (.cells #[iv 0] 3)=wq:=⟨_,rfl⟩;have hbq:Below w1.heap.size w1 wq:=by rw[<-hWq];exact (Below.refl _ _).alloc (Nat.le_refl _) _
 have hxq:wq.heap[w1.heap.size]?=some (.cells #[iv 0] 3 (0,0)):=by rw[<-hWq];exact Ai _ _
 have cq:=Ap hxq;have fq:wq.frozen? ⟨w1.heap.size,0,none⟩=false:=by simp[World.frozen?,hxq]
 have lq:w1.heap.size<wq.heap.size:=(Array.getElem?_eq_some_iff.1 hxq).1;obtain⟨w2,hW2⟩:∃w2,wq.setCell ⟨w1.heap.size,0,none⟩ (iv 0)=w2:=⟨_,rfl⟩;have hb2:Below w1.heap.size w1 w2:=by rw[<-hW2];exact hbq.setCell (p:=⟨w1.heap.size,0,none⟩) (Nat.le_refl _) _
 have hx2:w2.heap[w1.heap.size]?=some (.cells #[iv 0] 3 (0,0)):=by rw[<-hW2];simp[World.setCell,Array.getElem?_modify,hxq]
 have hg2:w1.heap.size<w2.heap.size:=(Array.getElem?_eq_some_iff.1 hx2).1;have hB2:Below w.heap.size w w2:=hb1.trans (hb2.mono hb1.size);have hlw:w.heap.size<w1.heap.size:=by omega
 have hglw:gl<w.heap.size:=(Array.getElem?_eq_some_iff.1 hgl).1;have HBw:Hid (∀wr,But w1.heap.size w2 wr->Below w.heap.size w wr):=fun wr h=>h.low hB2 (by omega)
 have Hm:Hid (∀wr,But w1.heap.size w2 wr->IsMd (fun k=>k≠w1.heap.size) wr m (.slice ac m.consts.length cc) (.slice af m.funcs.length cf)∧Al (fun k=>k≠w1.heap.size) wr states (.slice as_ states.length cs_)∧Al (fun k=>k≠w1.heap.size) wr args (.slice aa args.length ca)∧wr.heap[gl]?=some (.cells #[.slice as_ states.length cs_,.slice aa args.length ca] 22 (0,0))∧wr.heap[w.heap.size]?=some (.cells #[.slice ac m.consts.length cc,.slice af m.funcs.length cf] 25 (0,0))):=fun wr h=>by
  have hb:=h.low hB2 (show w.heap.size<=w1.heap.size by omega);exact⟨(hm.base (fun k _ hl=>by omega)).below hb,(hs.base (fun k _ hl=>by omega)).below hb,(ha.base (fun k _ hl=>by omega)).below hb,(hb.block _ hglw).trans hgl,(h.block _ (by omega) (by omega)).trans ((hb2.block _ hlw).trans hx1)⟩
 have Hyes:Hid (∀wr,But w1.heap.size w2 wr->Xz m states args w (.returned (.bool true)) wr):=fun wr h=>⟨⟨true,rfl,fun h=>by cases h⟩,HBw.out wr h⟩
 have hfl:m.funcs.length<=9223372036854775807:=by obtain⟨_,_,e,h1,h2⟩:=hm.fun_.slice;cases e;omega
 obtain⟨q0,q1,-,-,q2⟩:=Ae ((hb2.block _ hlw).trans hx1);have Hfar:Hid (∀f∈m.funcs,f.code.length<=281474976710656):=fun f hf=>by have:=hz.fun_ f hf;unfold Far at this;omega
 clear hl1 hx1 hb1 hb2 hm hs ha hgl hxq hbq;go_enter Tryz.func8,Tryz.ntmps8;go_wp2_with fail
 go_loopg [15] m.funcs.length (fun g i wr=>∃q:Nat,q<=m.funcs.length∧g=m.funcs.length - q∧i=iv q∧fsz (m.funcs.take q)<=1024∧Hid (wr.heap[w1.heap.size]?=some (.cells #[iv ((fsz (m.funcs.take q):Nat):Int)] 3 (0,0)))∧But w1.heap.size w2 wr)
 case atStart=>exact⟨0,Nat.zero_le _,rfl,rfl,by simp[fsz],by show _=_;simpa [fsz] using hx2,But.refl _ _⟩
 case round=>
  obtain⟨q,hq,rfl,rfl,hN,HN,hBr⟩:=hrel;have hgr:w1.heap.size<wr.heap.size:=by have:=hBr.size;omega
  by_cases hlt:q<m.funcs.length
  ·have hf:m.funcs[q]?=some m.funcs[q]:=List.getElem?_eq_getElem hlt;have hfs:=T5 hf;have hfar:=Hfar.out _ (List.getElem_mem hlt);obtain⟨gf,of,ak,ck,rfl,-,hgf,f0,f1,f2,f3,f4,-⟩:=(Hm.out wr hBr).1.fun_.get hf;have hltI:(q:Int)<(m.funcs.length:Int):=by omega
   have hq0:(0:Int)<=(q:Int):=by omega
   generalize m.funcs[q]=f at *;obtain⟨wb,hWb,hbb,hlb,hxb⟩:=U5 wr (iv f.params) (iv f.locals) (iv f.zero) (iv f.stack) (.slice ak f.code.length ck) 52;have hgb:w1.heap.size<wb.heap.size:=by omega
   have hxg:=(hbb.block _ hgr).trans HN.out;have k0:=Ap hxg;have fz:wb.frozen? ⟨w1.heap.size,0,none⟩=false:=by simp[World.frozen?,hxg]
   obtain⟨-,-,-,-,b4,-,-,-,-,-,hbl⟩:=Ak hxb;generalize fsz (m.funcs.take q)=N at *;have e1:IntKind.i64.wrap (1+(f.code.length:Int))=1+(f.code.length:Int):=by rw[IntKind.wrap_i64];omega
   have e2:IntKind.i64.wrap ((N:Int)+(1+(f.code.length:Int)))=((N+(1+f.code.length):Nat):Int):=by rw[IntKind.wrap_i64];omega
   obtain⟨wc,hWc⟩:∃wc,wb.setCell ⟨w1.heap.size,0,none⟩ (iv ((N+(1+f.code.length):Nat):Int))=wc:=⟨_,rfl⟩;have hxc:wc.heap[w1.heap.size]?=some (.cells #[iv ((N+(1+f.code.length):Nat):Int)] 3 (0,0)):=by rw[<-hWc];simp[World.setCell,Array.getElem?_modify,hxg]
   have hBc:But w1.heap.size w2 wc:=(hBr.trans (But.of hbb)).trans (by rw[<-hWc];exact But.set _);have k1:=Ap hxc;have hgc:w1.heap.size<wc.heap.size:=(Array.getElem?_eq_some_iff.1 hxc).1;obtain⟨M,HM⟩:∃M:Nat,Hid (N+(1+f.code.length)=M):=⟨_,rfl⟩;rw[HM.out] at e2 hWc hxc k1 hfs;have Hyc:=Hyes.out wc hBc;clear hf hfar HN hxb hlb hxg;by_cases hbig:M<=1024
   ·have hbI:¬(1024:Int)<(M:Int):=by omega
    have HN':Hid (wc.heap[w1.heap.size]?=some (.cells #[iv ((fsz (m.funcs.take (q+1)):Nat):Int)] 3 (0,0))):=by show _=_;rw[hfs];exact hxc
    have hN':fsz (m.funcs.take (q+1))<=1024:=by omega
    clear hfs hxc;go_wp2_with fail;go_roundg (m.funcs.length - (q+1))
    case measure=>omega
    case rel=>exact⟨q+1,by omega,rfl,by go_num,hN',HN',hBc⟩
   ·have hbI:(1024:Int)<(M:Int):=by omega
    clear hfs hxc;go_wp2;go_ret;exact Hyc
  ·have hltI:¬(q:Int)<(m.funcs.length:Int):=by omega
   have hqe:q=m.funcs.length:=by omega
   subst hqe;rw[List.take_length] at hN HN;obtain⟨hmd,hsv,hav,hgl',hbx⟩:=Hm.out wr hBr;obtain⟨j0,j1,-,-,j2⟩:=Ae hbx;obtain⟨wA,hWA⟩:∃wA,wr.alloc (.cells #[.slice ac m.consts.length cc] 22)=wA:=⟨_,rfl⟩;have hbA:Below wr.heap.size wr wA:=by rw[<-hWA];exact (Below.refl _ _).alloc (Nat.le_refl _) _
   have hxA:wA.heap[wr.heap.size]?=some (.cells #[.slice ac m.consts.length cc] 22 (0,0)):=by rw[<-hWA];exact Ai _ _
   have hown:wA.ownsRow wr.heap.size 22 1 (sL wr.heap.size 0 1 1) 1 [.slice ac m.consts.length cc]:=⟨rfl,Or.inr ⟨wr.heap.size,1,#[.slice ac m.consts.length cc],rfl,Nat.le_refl _,hxA,Nat.le_refl _,by unfold maxLen;omega,rfl,rfl⟩⟩;have hglA:=(hbA.block _ (Array.getElem?_eq_some_iff.1 hgl').1).trans hgl';obtain⟨a3,c3,w3,hr3,ho3,hb3,-⟩:=Hu Tryz.underlying49 X0 rfl (by decide) 49 (m:=2) (c:=2) (ad:=some ⟨gl,0,none⟩) (news:=[.slice as_ states.length cs_,.slice aa args.length ca]) hown (fun h=>by cases h) (by simp) (fun b hb j u hu=>by
    obtain rfl:=Option.some.inj hb;exact World.news_of_block hglA j u hu) (by intro u hu;simp at hu;rcases hu with rfl | rfl <;> rfl) (by omega) (by decide) hbA.size
   have hBr3:Below wr.heap.size wr w3:=hbA.trans hb3;have hB3:But w1.heap.size w2 w3:=hBr.trans (But.of hBr3);have hx3:=(hBr3.block _ hgr).trans HN.out;obtain⟨g3,rfl,hg3,Hrow⟩:∃g3,a3=some ⟨g3,0,none⟩∧wr.heap.size<=g3∧Hid (∀wx,But w1.heap.size w3 wx->g3<wx.heap.size∧wx.cell? ⟨g3,0,none⟩=some (.slice ac m.consts.length cc)∧wx.cell? ⟨g3,1,none⟩=some (.slice as_ states.length cs_)∧wx.cell? ⟨g3,2,none⟩=some (.slice aa args.length ca)):=by
    rcases ho3.2 with⟨e,h0⟩ | ⟨g3,cap',cur,e,hb,hg,hn,hm',hsz,ht⟩
    ·omega
    ·simp only[Value.slice.injEq] at e;obtain⟨rfl,-,rfl⟩:=e;have hl3:=(Array.getElem?_eq_some_iff.1 hg).1;refine⟨g3,rfl,hb,fun wx hbx=>?_⟩;have hgx:wx.heap[g3]?=some (.cells cur 22 (0,0)):=(hbx.block _ hl3 (by omega)).trans hg;have hc:∀j u,([Value.slice ac m.consts.length cc] ++ [.slice as_ states.length cs_,.slice aa args.length ca])[j]?=some u->wx.cell? ⟨g3,j,none⟩=some u:=fun j u hu=>by
      rw[cell_block hgx];rw[<-ht,List.getElem?_take] at hu;split at hu
      ·simpa using hu
      ·cases hu
     exact⟨Nat.lt_of_lt_of_le hl3 hbx.size,hc 0 _ rfl,hc 1 _ rfl,hc 2 _ rfl⟩
   have Hli:Hid (∀(k:Nat) (wx:World),k<3->But w1.heap.size w3 wx->∃al cl,g3<wx.heap.size∧wx.cell? ⟨g3,k,none⟩=some (.slice al (li15 m states args k).length cl)∧Al (fun k=>k≠w1.heap.size) wx (li15 m states args k) (.slice al (li15 m states args k).length cl)∧Ee (li15 m states args k)):=fun k wx hk hb=>by
    obtain⟨r0,r1,r2,r3⟩:=Hrow.out wx hb;obtain⟨x1,x2,x3,-,-⟩:=Hm.out wx (hB3.trans hb);have hc:k=0∨k=1∨k=2:=by omega
    rcases hc with rfl | rfl | rfl
    ·exact⟨_,_,r0,r1,x1.con,Gd (fun v hv=>(hz.con v hv).1)⟩
    ·exact⟨_,_,r0,r2,x2,hzs⟩
    ·exact⟨_,_,r0,r3,x3,hza⟩
   have hBm:∀k,B k->k≠w1.heap.size∨True:=fun _ _=>Or.inr trivial
   clear hmd hsv hav hgl' hbx hown hglA ho3 hb3 hBr3 hbA hxA Hrow hBm hBr;obtain⟨wo,hwo⟩:∃wo,wo=wr:=⟨_,rfl⟩;subst hwo;go_wp2_with (at_builtin;refine Lib.wpList_append_run _ rfl _ _ 49 49 rfl _ _ rfl rfl _ _ hr3 ?_;clear hr3)
   go_loopg [34] 3 (fun g i wr=>∃q:Nat,q<=3∧g=3 - q∧i=iv q∧sm15 m states args q<=16384∧Hid (wr.heap[w1.heap.size]?=some (.cells #[iv ((sm15 m states args q:Nat):Int)] 3 (0,0)))∧But w1.heap.size w3 wr)
   case atStart=>exact⟨0,Nat.zero_le _,rfl,rfl,by simp[sm15];omega,by show _=_;simpa [sm15] using hx3,But.refl _ _⟩
   case round=>
    obtain⟨q,hq,rfl,rfl,hS,HS,hBq⟩:=hrel;by_cases hlt3:q<3
    ·obtain⟨al,cl,hg3l,hrow,hvl,hzl⟩:=Hli.out q wr hlt3 hBq;have hltI3:(q:Int)<3:=by omega
     have hq0:(0:Int)<=(q:Int):=by omega
     have hstep:=Q5 (m:=m) (states:=states) (args:=args) hlt3;obtain⟨l,Hl⟩:∃l,Hid (li15 m states args q=l):=⟨_,rfl⟩;rw[Hl.out] at hrow hvl hzl hstep;have Hstep:Hid _:=hstep;obtain⟨S,HSe⟩:∃S,Hid (sm15 m states args q=S):=⟨_,rfl⟩;rw[HSe.out] at hS HS;have hll:l.length<=9223372036854775807:=by obtain⟨_,_,e,h1,h2⟩:=hvl.slice;cases e;omega
     obtain⟨wp,hwp⟩:∃wp,wp=wr:=⟨_,rfl⟩;subst hwp;have Hin:Hid (∀(k:Nat) (wx:World),k<l.length->But w1.heap.size wp wx->∃x g o ax cx,l[k]?=some x∧al=some ⟨g,o,none⟩∧g<wx.heap.size∧wx.cell? ⟨g,o+k*4,none⟩=some (iv x.k)∧wx.cell? ⟨g,o+k*4+1,none⟩=some (iv x.n)∧wx.cell? ⟨g,o+k*4+2,none⟩=some (bz x.t)∧wx.cell? ⟨g,o+k*4+3,none⟩=some (.slice ax x.l.length cx)∧IsW (fun k=>k≠w1.heap.size) wx x (.slice ax x.l.length cx)∧SzV x):=fun k wx hk hb=>by
      have hx:l[k]?=some l[k]:=List.getElem?_eq_getElem hk;obtain⟨g,o,ax,cx,e,-,hg,x0,x1,x2,x3,hw⟩:=(hvl.since hb.since).get hx;exact⟨l[k],g,o,ax,cx,hx,e,hg,x0,x1,x2,x3,hw,hzl.mem (List.getElem_mem hk)⟩
     clear hvl hzl hstep;go_wp2_with fail
     go_loopg [40] l.length (fun g i wr=>∃k:Nat,k<=l.length∧g=l.length - k∧i=iv k∧S+wts (l.take k)<=16384∧Hid (wr.heap[w1.heap.size]?=some (.cells #[iv ((S+wts (l.take k):Nat):Int)] 3 (0,0)))∧But w1.heap.size wp wr)
     case atStart=>exact⟨0,Nat.zero_le _,rfl,rfl,by simpa [wts] using hS,by show _=_;simpa [wts] using HS.out,But.refl _ _⟩
     case round=>
      obtain⟨k,hk,rfl,rfl,hK,HK,hBk⟩:=hrel;by_cases hltk:k<l.length
      ·obtain⟨x,g,o,ax,cx,hx,rfl,hg,x0,x1,x2,x3,hw,hzx⟩:=Hin.out k wr hltk hBk;have hltI:(k:Int)<(l.length:Int):=by omega
       have hk0:(0:Int)<=(k:Int):=by omega
       have hs:=C8 hx;have hgk:w1.heap.size<wr.heap.size:=(Array.getElem?_eq_some_iff.1 HK.out).1;have hba:Below wr.heap.size wr (wr.alloc (.cells #[iv x.k,iv x.n,bz x.t,.slice ax x.l.length cx] 31)):=(Below.refl _ _).alloc (Nat.le_refl _) _;have hC:=M0 _ x ax cx w1.heap.size (S+wts (l.take k)) (wr.alloc (.cells #[iv x.k,iv x.n,bz x.t,.slice ax x.l.length cx] 31)) (Nat.lt_succ_self _) hzx hK (hw.below hba) ((hba.block _ hgk).trans HK.out);clear hx hzx hw HK Hin;by_cases hfit:S+wts (l.take k)+wt x<=16384
       ·go_wp2_with fail
        refine hC.mono ?_;rintro e w4 ⟨h4,hb4⟩;rw[if_pos hfit] at h4;obtain⟨rfl,hx4⟩:=h4;have HK4:Hid (w4.heap[w1.heap.size]?=some (.cells #[iv ((S+wts (l.take (k+1)):Nat):Int)] 3 (0,0))):=by
         show _=_;rw[hs,<-Nat.add_assoc];exact hx4
        have hK4:S+wts (l.take (k+1))<=16384:=by omega
        have hB4:But w1.heap.size wp w4:=hBk.trans ((But.of hba).trans hb4);clear hC hs hfit hx4 hK;go_wp2_with fail;go_roundg (l.length - (k+1))
        case measure=>omega
        case rel=>exact⟨k+1,by omega,rfl,by go_num,hK4,HK4,hB4⟩
       ·go_wp2_with fail
        refine hC.mono ?_;rintro e w4 ⟨h4,hb4⟩;rw[if_neg hfit] at h4;subst h4;have hfin:=Hyes.out w4 (hB3.trans (hBq.trans (hBk.trans ((But.of hba).trans hb4))));clear hC hs hfit;go_wp2;go_ret;exact hfin
      ·have hltI:¬(k:Int)<(l.length:Int):=by omega
       have hke:k=l.length:=by omega
       subst hke;rw[List.take_length] at hK HK;have HS':Hid (wr.heap[w1.heap.size]?=some (.cells #[iv ((sm15 m states args (q+1):Nat):Int)] 3 (0,0))):=by show _=_;rw[Hstep.out,HSe.out];exact HK.out
       have hS':sm15 m states args (q+1)<=16384:=by rw[Hstep.out,HSe.out];exact hK
       clear HK Hin;go_wp2_with fail;go_roundg (3 - (q+1))
       case measure=>omega
       case rel=>exact⟨q+1,by omega,rfl,by go_num,hS',HS',hBq.trans hBk⟩
    ·have hq3:q=3:=by omega
     subst hq3;have hfin:Xz m states args w (.returned (.bool false)) wr:=⟨⟨false,rfl,fun _=>⟨hN,by simpa [sm15] using hS⟩⟩,HBw.out wr (hB3.trans hBq)⟩;clear HS Hli;go_wp2;go_ret;exact hfin
theorem M2{B:Nat->Prop}{l:List V}{aa ab:Option Addr}{ca cb:Nat}{w:World}(ha:Al B w l (.slice aa l.length ca))(hb:Al B w l (.slice ab l.length cb)) :
  Calls Tryz.prog 13 #[.slice aa l.length ca,.slice ab l.length cb] w fun e w'=>e=.returned (.bool true)∧Below w.heap.size w w':=by
 have hll:l.length<=9223372036854775807:=by obtain⟨_,_,e,h1,h2⟩:=ha.slice;cases e;omega
 have hne:((l.length:Int) != (l.length:Int))=false:=by simp
 go_enter Tryz.func13,Tryz.ntmps13;go_wp2_with fail
 go_loopg [13] l.length (fun gk i wr=>∃q:Nat,q<=l.length∧gk=l.length - q∧i=iv q∧Hid (Below w.heap.size w wr))
 case atStart=>exact⟨0,Nat.zero_le _,rfl,rfl,Below.refl _ _⟩
 case round=>
  obtain⟨q,hq,rfl,rfl,HI⟩:=hrel;have hBr:=HI.out;clear HI;by_cases hlt:q<l.length
  ·have hltI:(q:Int)<(l.length:Int):=by omega
   have hq0:(0:Int)<=(q:Int):=by omega
   obtain⟨x,hx⟩:∃x,l[q]?=some x:=⟨_,List.getElem?_eq_getElem hlt⟩;obtain⟨g1,o1,a1,c1,haa,-,hg1,p0,p1,p2,p3,hw1⟩:=(ha.below hBr).get hx;obtain⟨g2,o2,a2,c2,hab,-,hg2,r0,r1,r2,r3,hw2⟩:=(hb.below hBr).get hx;subst haa hab;have hC:∀w2,Below wr.heap.size wr w2->Calls Tryz.prog 15 #[.agg #[iv x.k,iv x.n,bz x.t,.slice a1 x.l.length c1],.agg #[iv x.k,iv x.n,bz x.t,.slice a2 x.l.length c2]] w2 fun r w'=>r=.returned (.bool true)∧Below w2.heap.size w2 w':=fun w2 h2=>by
    have:=Dk (hw1.below h2) (hw2.below h2);rw[(Cl x x).2 rfl] at this;exact this
   clear hx hw1 hw2;go_wp2_with fail;go_region_held3 (fun w'=>w'.cell? ⟨g1,o1+q*4,none⟩=some (iv x.k)∧w'.cell? ⟨g1,o1+q*4+1,none⟩=some (iv x.n)∧w'.cell? ⟨g1,o1+q*4+2,none⟩=some (bz x.t)∧w'.cell? ⟨g1,o1+q*4+3,none⟩=some (.slice a1 x.l.length c1)∧w'.cell? ⟨g2,o2+q*4,none⟩=some (iv x.k)∧w'.cell? ⟨g2,o2+q*4+1,none⟩=some (iv x.n)∧w'.cell? ⟨g2,o2+q*4+2,none⟩=some (bz x.t)∧w'.cell? ⟨g2,o2+q*4+3,none⟩=some (.slice a2 x.l.length c2)) (go_keep)
    ((go_at_call 15;refine (hC _ (Below.refl _ _).drew).mono ?_;rintro e w3 ⟨rfl,hb3⟩;replace hb3:=Ad hb3;obtain⟨f9,-⟩:=Ag hb3))
   clear hC f9 p0 p1 p2 p3 r0 r1 r2 r3;have hnew:Hid (Below w.heap.size w w3):=hBr.trans (hb3.mono hBr.size);clear ha hb hBr hb3;go_wp2_with fail;go_roundg (l.length - (q+1))
   case measure=>omega
   case rel=>exact⟨q+1,by omega,rfl,by go_num,hnew⟩
  ·have hltI:¬(q:Int)<(l.length:Int):=by omega
   clear ha hb;go_wp2;go_ret;exact⟨rfl,hBr⟩
end
end Go.Proofs.YtnijcolomoobnaaGreatDoor
