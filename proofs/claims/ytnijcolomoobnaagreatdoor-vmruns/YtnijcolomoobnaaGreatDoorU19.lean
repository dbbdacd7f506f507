/- Texts of ours, joined. -/
import Derived.Test.YtnijcolomoobnaaGreatDoorU15
set_option linter.unusedVariables false
set_option linter.unusedSimpArgs false
set_option maxRecDepth 100000
set_option maxHeartbeats 16000000
namespace Go.Proofs.YtnijcolomoobnaaGreatDoor
section
open Go.RowKit
attribute [local go_sem ↓] Go.wp_at_zero Go.wp_at_succ
structure KS(w:World)(bm bf gh gs:Nat)(mc mf cd:Value)(f:Fu)(hs:List Int)(sn:List Bool)(wr:World):Prop where
 below:Below w.heap.size w wr
 bk:wr.heap[bm]?=some (.cells #[mc,mf] 25 (0,0))
 fk:wr.heap[bf]?=some (.cells #[iv f.params,iv f.locals,iv f.zero,iv f.stack,cd] 52 (0,0))
 hk:El wr gh hs
 sk:D4 wr gs sn
 n1:gh≠bm
 n2:gh≠bf
 n3:gs≠bm
 n4:gs≠bf
 n5:gh≠gs
 o1:w.heap.size<=gh
 o2:w.heap.size<=gs
theorem KS.keep{w:World}{bm bf gh gs:Nat}{mc mf cd:Value}{f:Fu}{hs:List Int}{sn:List Bool}{wr wr':World}(h:KS w bm bf gh gs mc mf cd f hs sn wr)(hb:Below wr.heap.size wr wr'):KS w bm bf gh gs mc mf cd f hs sn wr':=
 ⟨h.below.trans (hb.mono h.below.size),(hb.block _ (Array.getElem?_eq_some_iff.1 h.bk).1).trans h.bk,(hb.block _ (Array.getElem?_eq_some_iff.1 h.fk).1).trans h.fk,h.hk.keep (hb.block _ (Array.getElem?_eq_some_iff.1 h.hk).1),h.sk.keep (hb.block _ (Array.getElem?_eq_some_iff.1 h.sk).1),h.n1,h.n2,h.n3,h.n4,h.n5,h.o1,h.o2⟩
theorem KS.seth{w:World}{bm bf gh gs:Nat}{mc mf cd:Value}{f:Fu}{hs:List Int}{sn:List Bool}{wr:World}(h:KS w bm bf gh gs mc mf cd f hs sn wr)(p:Nat)(x:Int):KS w bm bf gh gs mc mf cd f (hs.set p x) sn (wr.setCell ⟨gh,p,none⟩ (iv x)):=
 ⟨h.below.setCell (p:=⟨gh,p,none⟩) h.o1 _,(Below.heap_setCell _ _ _ _ (Ne.symm h.n1)).trans h.bk,(Below.heap_setCell _ _ _ _ (Ne.symm h.n2)).trans h.fk,h.hk.set p x,h.sk.keep (Below.heap_setCell _ _ _ _ (Ne.symm h.n5)),h.n1,h.n2,h.n3,h.n4,h.n5,h.o1,h.o2⟩
theorem KS.sets{w:World}{bm bf gh gs:Nat}{mc mf cd:Value}{f:Fu}{hs:List Int}{sn:List Bool}{wr:World}(h:KS w bm bf gh gs mc mf cd f hs sn wr)(p:Nat)(x:Bool):KS w bm bf gh gs mc mf cd f hs (sn.set p x) (wr.setCell ⟨gs,p,none⟩ (.bool x)):=
 ⟨h.below.setCell (p:=⟨gs,p,none⟩) h.o2 _,(Below.heap_setCell _ _ _ _ (Ne.symm h.n3)).trans h.bk,(Below.heap_setCell _ _ _ _ (Ne.symm h.n4)).trans h.fk,h.hk.keep (Below.heap_setCell _ _ _ _ h.n5),h.sk.set p x,h.n1,h.n2,h.n3,h.n4,h.n5,h.o1,h.o2⟩
theorem O9(w:World)(x0 x1:Value):∃wz w4,w.alloc (.cells #[iv 0,iv 0] 48)=wz∧(wz.setCell ⟨w.heap.size,0,none⟩ x0).setCell ⟨w.heap.size,1,none⟩ x1=w4∧Below w.heap.size w wz∧Below w.heap.size w w4∧w4.heap.size=w.heap.size+1∧w4.heap[w.heap.size]?=some (.cells #[x0,x1] 48 (0,0))∧wz.heap[w.heap.size]?=some (.cells #[iv 0,iv 0] 48 (0,0)):=by
 have hb:Below w.heap.size w (w.alloc (.cells #[iv 0,iv 0] 48)):=(Below.refl _ _).alloc (Nat.le_refl _) _;have hz:(w.alloc (.cells #[iv 0,iv 0] 48)).heap[w.heap.size]?=some (.cells #[iv 0,iv 0] 48 (0,0)):=Ai _ _;refine⟨_,_,rfl,rfl,hb,(hb.setCell (p:=⟨w.heap.size,0,none⟩) (Nat.le_refl _) x0).setCell (p:=⟨w.heap.size,1,none⟩) (Nat.le_refl _) x1,by simp[World.setCell],?_,hz⟩;generalize w.alloc (.cells #[iv 0,iv 0] 48)=wz at *;simp[World.setCell,Array.getElem?_modify,hz]
structure InsOk(fs:List Fu)(f:Fu):Prop where
 len:1<=f.code.length
 top:f.code.length<=16384
 stk:f.stack<=256
 call:∀i∈f.code,i.op=9->∃(k:Nat) (g:Fu),i.a=(k:Int)∧fs[k]?=some g
 pop:∀i∈f.code,0<=popN fs i∧popN fs i<=8
 jmp:∀i∈f.code,i.op=7∨i.op=8->0<=i.a
theorem R5{B:Nat->Prop}{fs:List Fu}{f:Fu}(ho:InsOk fs f){m1:Value}{af:Option Addr}{cf:Nat}{i:In}{w:World}(hi:i∈f.code)(hm:B5 B w fs (.slice af fs.length cf)):Calls Tryz.prog 72 #[.agg #[m1,.slice af fs.length cf],.agg #[iv i.op,iv i.a]] w fun e w'=>e=.returned (iv (popN fs i))∧Below w.heap.size w w':=by
 by_cases h9:i.op=9
 ·obtain⟨k,g,h1,h2⟩:=ho.call i hi h9;exact Jz hm h9 h1 h2
 ·exact Ib (by simpa using h9)
theorem P3{n q:Nat}(h:q<n):(List.replicate q (-1:Int) ++ List.replicate (n - q) 0).set q (-1)=List.replicate (q+1) (-1) ++ List.replicate (n - (q+1)) 0:=by
 have e1:n - q=n - (q+1)+1:=by omega
 rw[e1,List.replicate_succ,List.set_append_right _ _ (by simp),List.replicate_succ'];simp
def Cb(fs:List Fu)(f:Fu)(w:World)(e:Ending)(w':World):Prop:=(∃b,e=.returned (.bool b)∧(b=true↔Bo fs f))∧Below w.heap.size w w'
theorem Nj{B:Nat->Prop}{m:Md}{ac af:Option Addr}{cc cf:Nat}{w:World}(hm:IsMd B w m (.slice ac m.consts.length cc) (.slice af m.funcs.length cf)){n:Nat}{f:Fu}(hf:m.funcs[n]?=some f)(ho:InsOk m.funcs f) :
  Calls Tryz.prog 70 #[.agg #[.slice ac m.consts.length cc,.slice af m.funcs.length cf],iv n] w fun e w'=>Cb m.funcs f w e w':=by
 obtain⟨w0,hW0,hb0,hl0,hx0⟩:=Dq w (.slice ac m.consts.length cc) (.slice af m.funcs.length cf) 25;obtain⟨g,o,ak,ck,rfl,-,hg,p0,p1,p2,p3,p4,hfn⟩:=(hm.fun_.since (Since.of_below hb0)).get hf;obtain⟨i0,hi0⟩:∃i0,f.code[0]?=some i0:=⟨_,List.getElem?_eq_getElem (by have:=ho.len;omega)⟩;obtain⟨gc,oc,hak,-⟩:=hfn.code.get hi0;subst hak;clear hi0;obtain⟨wz,w1,hWz,hW1,hbz,hb1,hs1,hx1,hz⟩:=U8 w0 (iv f.params) (iv f.locals) (iv f.zero) (iv f.stack) (sL gc oc f.code.length ck);have hB1:Below w.heap.size w w1:=hb0.trans (hb1.mono (by omega));obtain⟨d0,d1,-,-,hld⟩:=Ae hx0;obtain⟨z0,z1,z2,z3,z4,y0,y1,y2,y3,y4,hlz⟩:=Ak hz;obtain⟨e0,e1,e2,e3,e4,-,-,-,-,-,hle⟩:=Ak hx1;have htop:=ho.top;have hlen:=ho.len;obtain⟨w2,hmk,hI2,hb2,hl2⟩:=J0 f.code.length (by omega) w1;have hnl:=(List.getElem?_eq_some_iff.1 hf).1;have hI:(n:Int)<(m.funcs.length:Int):=by omega
 have h0:(0:Int)<=(n:Int):=by omega
 have hB2:Below w.heap.size w w2:=hB1.trans (hb2.mono (by omega));have hcl:∀wr,Below w.heap.size w wr->IsFn B wr f (sL gc oc f.code.length ck)∧B5 B wr m.funcs (sL g o m.funcs.length cf):=fun wr hb=>by
  have h1:=hm.fun_.since (Since.of_below hb);obtain⟨g',o',ak',ck',e,-,-,-,-,-,-,q4,q5⟩:=h1.get hf;simp only[Option.some.injEq,Addr.mk.injEq] at e;obtain⟨rfl,rfl,-⟩:=e;refine⟨?_,h1⟩;have q6:w.cell? ⟨g,o+n*5+4,none⟩=some (sL gc oc f.code.length ck):=by
   obtain⟨g2,o2,ak2,ck2,e2,-,hg2,-,-,-,-,q7,-⟩:=hm.fun_.get hf;simp only[Option.some.injEq,Addr.mk.injEq] at e2;obtain⟨rfl,rfl,-⟩:=e2;have h9:=hb0.cell (p:=⟨g,o+n*5+4,none⟩) hg2;rw[<-h9];exact p4
  obtain⟨g2,o2,ak2,ck2,e2,-,hg2,-⟩:=hm.fun_.get hf;simp only[Option.some.injEq,Addr.mk.injEq] at e2;obtain⟨rfl,rfl,-⟩:=e2;have h9:=hb.cell (p:=⟨g,o+n*5+4,none⟩) hg2;rw[h9,q6] at q4;cases q4;exact q5
 have hx2:w2.heap[w.heap.size]?=some (.cells #[.slice ac m.consts.length cc,sL g o m.funcs.length cf] 25 (0,0)):=(hb2.block _ (by omega)).trans ((hb1.block _ (by omega)).trans hx0);have hx2':=(hb2.block _ hle).trans hx1;have hn01:w.heap.size<w0.heap.size:=by omega
 clear hm hf hnl hfn hx0 hz hl0 hs1 hx1;go_enter Tryz.func70,Tryz.ntmps70;go_wp2_with fail;clear hW0 hWz hW1 hmk p0 p1 p2 p3 p4 z0 z1 z2 z3 z4 y0 y1 y2 y3 y4 hlz d0 d1 e0 e1 e2 e3 e4 hbz hI h0 hg hld
 go_loopg [27] f.code.length (fun gk i wr=>∃q:Nat,q<=f.code.length∧gk=f.code.length - q∧i=iv q∧Hid (Below w1.heap.size w1 wr∧El wr w1.heap.size (List.replicate q (-1) ++ List.replicate (f.code.length - q) 0)))
 case atStart=>exact⟨0,Nat.zero_le _,rfl,rfl,hb2,by simpa using hI2⟩
 case round=>
  obtain⟨q,hq,rfl,rfl,HI⟩:=hrel;obtain⟨hBr,hIr⟩:=HI.out;clear HI hI2;by_cases hlt:q<f.code.length
  ·have hltI:(q:Int)<(f.code.length:Int):=by omega
   have hq0:(0:Int)<=(q:Int):=by omega
   obtain⟨c0,c1,c2⟩:=hIr.get (p:=q) (x:=0) (by rw[List.getElem?_append_right (by simp),List.length_replicate,Nat.sub_self,List.getElem?_replicate,if_pos (by omega)]);have hnew:Hid (Below w1.heap.size w1 (wr.setCell ⟨w1.heap.size,q,none⟩ (iv (-1)))∧El (wr.setCell ⟨w1.heap.size,q,none⟩ (iv (-1))) w1.heap.size (List.replicate (q+1) (-1) ++ List.replicate (f.code.length - (q+1)) 0)):=by
    refine⟨hBr.setCell (p:=⟨w1.heap.size,q,none⟩) (Nat.le_refl _) _,?_⟩;have h1:=hIr.set q (-1);rw[P3 hlt] at h1;exact h1
   clear hBr hIr hcl;go_wp2_with fail;go_roundg (f.code.length - (q+1))
   case measure=>omega
   case rel=>exact⟨q+1,by omega,rfl,by go_num,hnew⟩
  ·have hltI:¬(q:Int)<(f.code.length:Int):=by omega
   have hqe:q=f.code.length:=by omega
   subst hqe;clear hlt hq;rw[Nat.sub_self,List.replicate_zero,List.append_nil] at hIr;obtain⟨c0,c1,c2⟩:=hIr.get (p:=0) (x:=-1) (by rw[List.getElem?_replicate,if_pos (by omega)]);have i0:(0:Int)<(f.code.length:Int):=by omega
   obtain⟨w3,hW3⟩:∃w3,wr.setCell ⟨w1.heap.size,0,none⟩ (iv 0)=w3:=⟨_,rfl⟩;have hI3:El w3 w1.heap.size ((List.replicate f.code.length (-1)).set 0 0):=by rw[<-hW3];exact hIr.set 0 0
   have hB3:Below w1.heap.size w1 w3:=by rw[<-hW3];exact hBr.setCell (p:=⟨w1.heap.size,0,none⟩) (Nat.le_refl _) _
   obtain⟨w4',hmk4,hS4,hb4,hl4⟩:=Ni f.code.length (by omega) w3;obtain⟨w4,hW4⟩:∃w4:World,Hid (w4=w3):=⟨_,rfl⟩;rw[<-hW4.out] at hmk4 hS4 hb4 hl4 hI3 hB3 hW3;have l13:w1.heap.size<w4.heap.size:=(Array.getElem?_eq_some_iff.1 hI3).1;have hB04:Below w.heap.size w w4:=hB1.trans (hB3.mono (by have:=hB1.size;omega));have hB05:Below w.heap.size w w4':=hB04.trans (hb4.mono hB04.size);have hB15:Below w1.heap.size w1 w4':=hB3.trans (hb4.mono (by omega));have hx4:w4'.heap[w.heap.size]?=some (.cells #[.slice ac m.consts.length cc,sL g o m.funcs.length cf] 25 (0,0)):=(hB15.block _ (by omega)).trans ((hb2.block _ (by omega)).symm.trans hx2);have hx4':w4'.heap[w0.heap.size]?=some (.cells #[iv f.params,iv f.locals,iv f.zero,iv f.stack,sL gc oc f.code.length ck] 52 (0,0)):=(hB15.block _ hle).trans ((hb2.block _ hle).symm.trans hx2');obtain⟨e0,e1,e2,e3,e4,-,-,-,-,-,hle4⟩:=Ak ((hb4.block _ (by omega)).symm.trans hx4');have hK:Hid (KS w w.heap.size w0.heap.size w1.heap.size w4.heap.size (.slice ac m.consts.length cc) (sL g o m.funcs.length cf) (sL gc oc f.code.length ck) f ((List.replicate f.code.length (-1)).set 0 0) (List.replicate f.code.length false) w4'):=⟨hB05,hx4,hx4',hI3.keep (hb4.block _ l13),hS4,by omega,by omega,by omega,by omega,by omega,by omega,by have:=hB04.size;omega⟩;have hH:Hid (HInv m.funcs f ((List.replicate f.code.length (-1)).set 0 0) (List.replicate f.code.length false)):=HInv.init hlen;clear hIr hBr hI3 hS4 hx4 hx4' hx2 hx2' hB3 hb4 hB05 hB15 hW4;go_wp2_with fail
   clear hmk4 e0 e1 e2 e3 e4 c0 c1 hW3
   go_loopg [9] (2*left (List.replicate f.code.length false)+1) (fun gk ag wr=>∃(a:Bool) (hs:List Int) (sn:List Bool),ag=.bool a∧gk=2*left sn+a.toNat∧Hid (KS w w.heap.size w0.heap.size w1.heap.size w4.heap.size (.slice ac m.consts.length cc) (sL g o m.funcs.length cf) (sL gc oc f.code.length ck) f hs sn wr∧HInv m.funcs f hs sn∧(a=false->∀(p:Nat) (x:Int),hs[p]?=some x->0<=x->sn[p]?=some true)))
   case atStart=>exact⟨true,_,_,rfl,rfl,hK.out,hH.out,fun h=>by cases h⟩
   case round=>
    obtain⟨a,hs,sn,rfl,rfl,HI⟩:=hrel;obtain⟨hKr,hHr,hdone⟩:=HI.out;clear HI hK hH;cases a with
    | false=>
     have hpost:Cb m.funcs f w (.returned (.bool true)) wr:=⟨⟨true,rfl,by simp;exact hHr.done (hdone rfl)⟩,hKr.below⟩;clear hKr hHr hdone hcl;go_wp2;go_ret;exact hpost
    | true=>
     clear hdone;have hKH:Hid (KS w w.heap.size w0.heap.size w1.heap.size w4.heap.size (.slice ac m.consts.length cc) (sL g o m.funcs.length cf) (sL gc oc f.code.length ck) f hs sn wr):=hKr;have hHH:Hid (HInv m.funcs f hs sn):=hHr;obtain⟨e0,e1,e2,e3,e4,-,-,-,-,-,hle4⟩:=Ak hKr.fk;clear hKr hHr;go_wp2_with fail;clear e0 e1 e2 e3 e4
     go_loopg [44,9] f.code.length (fun gk i ag wr'=>∃(q:Nat) (a:Bool) (hs':List Int) (sn':List Bool),q<=f.code.length∧gk=f.code.length - q∧i=iv q∧ag=.bool a∧Hid (KS w w.heap.size w0.heap.size w1.heap.size w4.heap.size (.slice ac m.consts.length cc) (sL g o m.funcs.length cf) (sL gc oc f.code.length ck) f hs' sn' wr'∧HInv m.funcs f hs' sn'∧left sn'<=left sn∧(a=true->left sn'<left sn)∧(a=false->∀(p:Nat) (x:Int),p<q->hs'[p]?=some x->0<=x->sn'[p]?=some true)))
     case atStart=>exact⟨0,false,hs,sn,Nat.zero_le _,rfl,rfl,rfl,hKH.out,hHH.out,Nat.le_refl _,fun h=>(by cases h),fun _ p x hp=>by omega⟩
     case round=>
      obtain⟨q,a,hs',sn',hq,rfl,rfl,rfl,HI⟩:=hrel;have hKr:=HI.out.1;have hHr:=HI.out.2.1;have hle1:=HI.out.2.2.1;have Ha1:Hid (a=true->left sn'<left sn):=HI.out.2.2.2.1;have Ha2:Hid (a=false->∀(p:Nat) (x:Int),p<q->hs'[p]?=some x->0<=x->sn'[p]?=some true):=HI.out.2.2.2.2;clear HI hKH hHH;by_cases hlt:q<f.code.length
      rotate_left
      ·have hltI:¬(q:Int)<(f.code.length:Int):=by omega
       have hnew:Hid (KS w w.heap.size w0.heap.size w1.heap.size w4.heap.size (.slice ac m.consts.length cc) (sL g o m.funcs.length cf) (sL gc oc f.code.length ck) f hs' sn' wr∧HInv m.funcs f hs' sn'∧(a=false->∀(p:Nat) (x:Int),hs'[p]?=some x->0<=x->sn'[p]?=some true)):=⟨hKr,hHr,fun ha p x hx h0=>Ha2.out ha p x (by have:=(List.getElem?_eq_some_iff.1 hx).1;have:=hHr.hl;omega) hx h0⟩;have hms:Hid (2*left sn'+a.toNat<2*left sn+true.toNat):=by
        show _<_;cases a with
        | true=>have:=Ha1.out rfl;simp;omega
        | false=>simp;omega
       clear hKr hHr hcl Ha1 Ha2;go_wp2_with fail;go_roundg (2*left sn'+a.toNat)
       case measure=>exact hms.out
       case rel=>exact⟨a,hs',sn',rfl,rfl,hnew⟩
      have hltI:(q:Int)<(f.code.length:Int):=by omega
      have hq0:(0:Int)<=(q:Int):=by omega
      obtain⟨i,hi⟩:∃i,f.code[q]?=some i:=⟨_,List.getElem?_eq_getElem hlt⟩;obtain⟨x0,hx0⟩:∃x0,hs'[q]?=some x0:=⟨_,List.getElem?_eq_getElem (by have:=hHr.hl;omega)⟩;obtain⟨s0,hs0⟩:∃s0,sn'[q]?=some s0:=⟨_,List.getElem?_eq_getElem (by have:=hHr.sl;omega)⟩;obtain⟨hfn,hfus⟩:=hcl wr hKr.below;obtain⟨gc',oc',hak,-,hgc,ci0,ci1,-,-⟩:=hfn.code.get hi;simp only[Option.some.injEq,Addr.mk.injEq] at hak;obtain⟨rfl,rfl,-⟩:=hak;obtain⟨wz,wi,hWz,hWi,hbz,hbi,hsi,hxi,hz⟩:=O9 wr (iv i.op) (iv i.a);have hKi:=hKr.keep hbi;obtain⟨z0,z1,y0,y1,hlz⟩:=Ae hz;obtain⟨u0,u1,-,-,hli⟩:=Ae hxi;obtain⟨h0c,h0f,h0l⟩:=hKi.hk.get hx0;obtain⟨s0c,s0f,s0l⟩:=hKi.sk.get hs0;have hlow:=hHr.low q x0 hx0;clear hsi;by_cases hpend:0<=x0∧s0=false
      rotate_left
      ·have hskip:Hid (a=false->∀(p:Nat) (x:Int),p<q+1->hs'[p]?=some x->0<=x->sn'[p]?=some true):=fun ha p x hp hx h0=>by
        by_cases hpq:p=q
        ·subst hpq;rw[hx0] at hx;cases hx;rw[hs0];cases s0 with
         | true=>rfl
         | false=>exact absurd ⟨h0,rfl⟩ hpend
        ·exact Ha2.out ha p x (by omega) hx h0
       have hnew:Hid (KS w w.heap.size w0.heap.size w1.heap.size w4.heap.size (.slice ac m.consts.length cc) (sL g o m.funcs.length cf) (sL gc oc f.code.length ck) f hs' sn' wi∧HInv m.funcs f hs' sn'∧left sn'<=left sn∧(a=true->left sn'<left sn)∧(a=false->∀(p:Nat) (x:Int),p<q+1->hs'[p]?=some x->0<=x->sn'[p]?=some true)):=⟨hKi,hHr,hle1,Ha1.out,hskip.out⟩;clear hKr hHr hcl Ha1 Ha2 hskip hKi hi hx0 hs0 hfn hfus hz hxi hlow;by_cases hneg:x0<0
       ·clear hpend;go_wp2_with fail;go_roundg (f.code.length - (q+1))
        case measure=>omega
        case rel=>exact⟨q+1,a,hs',sn',by omega,rfl,by go_num,rfl,hnew⟩
       ·have hst:s0=true:=by
         cases s0 with
         | true=>rfl
         | false=>exact absurd ⟨by omega,rfl⟩ hpend
        subst hst;clear hpend;go_wp2_with fail;go_roundg (f.code.length - (q+1))
        case measure=>omega
        case rel=>exact⟨q+1,a,hs',sn',by omega,rfl,by go_num,rfl,hnew⟩
      obtain⟨hpos,rfl⟩:=hpend;have hneg:¬x0<0:=by omega
      obtain⟨ws,hWs⟩:∃ws,wi.setCell ⟨w4.heap.size,q,none⟩ (.bool true)=ws:=⟨_,rfl⟩;have hKs:KS w w.heap.size w0.heap.size w1.heap.size w4.heap.size (.slice ac m.consts.length cc) (sL g o m.funcs.length cf) (sL gc oc f.code.length ck) f hs' (sn'.set q true) ws:=by rw[<-hWs];exact hKi.sets q true
      have hls:Hid (left (sn'.set q true)+1=left sn'∧left sn'<=left sn):=⟨Id sn' q hs0,hle1⟩;have hmem:=List.mem_of_getElem? hi;obtain⟨k0,kf,kl⟩:=hKs.hk.get hx0;obtain⟨b0,b1,-,-,lb⟩:=Ae hKs.bk;have lis:wr.heap.size<ws.heap.size:=by rw[<-hWs];simpa [World.setCell] using hli
      have hxs:ws.heap[wr.heap.size]?=some (.cells #[iv i.op,iv i.a] 48 (0,0)):=by
       have:w4.heap.size<wr.heap.size:=(Array.getElem?_eq_some_iff.1 hKr.sk).1;rw[<-hWs,Below.heap_setCell _ _ _ _ (by show wr.heap.size≠w4.heap.size;omega)];exact hxi
      obtain⟨t0,t1,-,-,-⟩:=Ae hxs;have hPo:∀w2,Below ws.heap.size ws w2->Calls Tryz.prog 72 #[.agg #[.slice ac m.consts.length cc,sL g o m.funcs.length cf],.agg #[iv i.op,iv i.a]] w2 fun e w'=>e=.returned (iv (popN m.funcs i))∧Below w2.heap.size w2 w':=fun w2 hb=>R5 ho hmem ((hcl ws hKs.below).2.since (Since.of_below hb))
      obtain⟨hpn1,hpn2⟩:=ho.pop i hmem;obtain⟨hps1,hps2⟩:=Ei i.op;have hw1:IntKind.i64.wrap (x0 - popN m.funcs i)=x0 - popN m.funcs i:=by rw[IntKind.wrap_i64];omega
      have hw3:IntKind.i64.wrap ((q:Int)+1)=(q:Int)+1:=by rw[IntKind.wrap_i64];omega
      obtain⟨X,hX⟩:∃X,Hid (hgt m.funcs i x0=X):=⟨_,rfl⟩;have hw2:IntKind.i64.wrap (x0 - popN m.funcs i+psh i.op)=X:=by have:=hX.out;unfold hgt at this;rw[IntKind.wrap_i64];omega
      have hXp:0<=x0 - popN m.funcs i->0<=X:=by have:=hX.out;unfold hgt at this;omega
      have HX1:Hid (x0 - popN m.funcs i+psh i.op=X):=by have:=hX.out;unfold hgt at this;exact this
      clear hKi hxi hz hs0 hfn hfus;go_wp2_with fail;clear hWz hWi z0 z1 y0 y1 ci0 ci1 u0 u1 h0c h0f h0l s0c s0f s0l hWs;go_region_held3 (fun w'=>w'.cell? ⟨w1.heap.size,q,none⟩=some (iv x0)∧w'.cell? ⟨w.heap.size,0,none⟩=some (.slice ac m.consts.length cc)∧w'.cell? ⟨w.heap.size,1,none⟩=some (sL g o m.funcs.length cf)∧w'.cell? ⟨wr.heap.size,0,none⟩=some (iv i.op)∧w'.cell? ⟨wr.heap.size,1,none⟩=some (iv i.a)) (go_keep)
       ((go_at_call 72;refine (hPo _ (Below.refl _ _).drew).mono ?_;rintro e w3 ⟨rfl,hb3⟩;replace hb3:=Ad hb3;obtain⟨f9,-⟩:=Ag hb3))
      clear hPo f9 k0 b0 b1 t0 t1;have hK3:=hKs.keep hb3;have hx3:=(hb3.block _ lis).trans hxs;have l3:=Nat.lt_of_lt_of_le lis hb3.size;by_cases hx1:0<=x0 - popN m.funcs i
      rotate_left
      ·have hpost:Cb m.funcs f w (.returned (.bool false)) w3:=⟨⟨false,rfl,by simp;exact Ic hHr hx0 hpos hi (Or.inl hx1)⟩,hK3.below⟩;have hxl:x0 - popN m.funcs i<0:=by omega
       clear hKr hHr hcl Ha1 Ha2 hKs hK3 hb3 hx3 hxs hls hmem hi;go_wp2;go_ret;exact hpost
      have hxl:¬x0 - popN m.funcs i<0:=by omega
      obtain⟨v0,v1,-,-,lv3⟩:=Ae hx3;clear hxs hKs hKr;go_wp2_with fail;refine (Nc i _).mono ?_;rintro e w5 ⟨rfl,hb5⟩;have hK5:=hK3.keep hb5;have l15:w1.heap.size<w5.heap.size:=(Array.getElem?_eq_some_iff.1 hK5.hk).1;have hv5:=(hb5.block _ l3).trans hx3;obtain⟨v0',v1',-,-,lv⟩:=Ae hv5;obtain⟨e0,e1,e2,e3,e4,-,-,-,-,-,hle5⟩:=Ak hK5.fk;clear v0 v1 hx3 hb3;by_cases hX3:X<=f.stack
      rotate_left
      ·have hpost:Cb m.funcs f w (.returned (.bool false)) w5:=⟨⟨false,rfl,by simp;exact Ic hHr hx0 hpos hi (Or.inr (by rw[hX.out];exact hX3))⟩,hK5.below⟩;have hxg:f.stack<X:=by omega
       clear hHr hcl Ha1 Ha2 hK3 hK5 hv5 hls hmem hi hb5;go_wp2;go_ret;exact hpost
      have hxg:¬f.stack<X:=by omega
      have hP0:Hid (HPart m.funcs f q i x0 0 hs' (sn'.set q true)):=hHr.into hx0 hpos hi hx1 (by rw[hX.out];exact hX3);have hXpos:=hXp hx1;have v0:=v0';have v1:=v1';clear v0' v1' hHr hK3 hb5 hx0 hi hXp HX1 hX3;have hop:(i.op=7∧nxt q i=[i.a.toNat])∨(i.op=8∧nxt q i=[i.a.toNat,q+1])∨(i.op=10∧nxt q i=[])∨((i.op≠7∧i.op≠8∧i.op≠10)∧nxt q i=[q+1]):=by
       by_cases h7:i.op=7
       ·exact Or.inl ⟨h7,by simp[nxt,h7]⟩
       by_cases h8:i.op=8
       ·exact Or.inr (Or.inl ⟨h8,by simp[nxt,h8]⟩)
       by_cases h10:i.op=10
       ·exact Or.inr (Or.inr (Or.inl ⟨h10,by simp[nxt,h10]⟩))
       ·exact Or.inr (Or.inr (Or.inr ⟨⟨h7,h8,h10⟩,by simp[nxt,h7,h8,h10]⟩))
      rcases hop with hop | hop | hop | hop
      ·obtain⟨hcase,hnx⟩:=hop;have h7:(i.op == 7)=true:=by rw[hcase];rfl
       have n7:(i.op != 7)=false:=by rw[hcase];rfl
       obtain⟨na,hna⟩:∃na:Nat,i.a=(na:Int):=⟨i.a.toNat,by have:=ho.jmp i hmem (by omega);omega⟩;rw[hna] at v1;have hna2:i.a.toNat=na:=by omega
       rw[hna2] at hnx;clear hna2;clear hcase;have hrow0:=Bt.nil w5.heap.size w5;have hB50:Below w5.heap.size w5 w5:=Below.refl _ _;obtain⟨wa0,hWa0⟩:∃wa,w5.alloc (.cells #[iV ((na:Int))] 3)=wa:=⟨_,rfl⟩;have hba0:Below w5.heap.size w5 wa0:=by rw[<-hWa0];exact (Below.refl _ _).alloc (Nat.le_refl _) _
       have hxa0:wa0.heap[w5.heap.size]?=some (.cells #[iV ((na:Int))] 3 (0,0)):=by rw[<-hWa0];exact Ai _ _
       have hB5a0:Below w5.heap.size w5 wa0:=hB50.trans (hba0.mono hB50.size);obtain⟨g0,cap0,wb0,hr0,hrow1,hgr0,-⟩:=(hrow0.since (w':=wa0) (fun k hk=>hba0.block k (hrow0.lt hk).2)).push hxa0 hB5a0.size (by simp) 1 122;have hB51:Below w5.heap.size w5 wb0:=hB5a0.trans ((hrow0.since (w':=wa0) (fun k hk=>hba0.block k (hrow0.lt hk).2)).below hgr0 (Nat.le_refl _) hB5a0.size);simp only[List.length_nil,List.length_cons,List.length_append,List.nil_append,List.cons_append,Nat.zero_add,Nat.reduceAdd] at hr0 hrow1;have hrow:Hid (Bt w5.heap.size wb0 (sL g0 0 1 cap0) [(na:Int)]):=hrow1;have hK7:Hid (KS w w.heap.size w0.heap.size w1.heap.size w4.heap.size (.slice ac m.consts.length cc) (sL g o m.funcs.length cf) (sL gc oc f.code.length ck) f hs' (sn'.set q true) wb0):=hK5.keep hB51;obtain⟨vv0,vv1,-,-,lvv⟩:=Ae ((hB51.block _ lv).trans hv5);obtain⟨aa00,aa01,-,-,laa0⟩:=Ae ((hB5a0.block _ lv).trans hv5);obtain⟨ab00,ab01,-,-,lab0⟩:=Ae ((hB51.block _ lv).trans hv5);clear hrow0 hrow1 hxa0 hba0 hB5a0 hgr0 hB50 hB51;go_wp2_with (at_builtin;refine Lib.wpList_append_run _ rfl _ _ 122 122 rfl _ _ rfl rfl _ _ hr0 ?_;clear hr0);clear vv0 vv1 v0 v1 aa00 aa01 ab00 ab01 hWa0
       go_loopg [109] 1 (fun gk j wr'=>∃(k:Nat) (hs2:List Int),k<=1∧gk=1 - k∧j=iv k∧Hid (KS w w.heap.size w0.heap.size w1.heap.size w4.heap.size (.slice ac m.consts.length cc) (sL g o m.funcs.length cf) (sL gc oc f.code.length ck) f hs2 (sn'.set q true) wr'∧HPart m.funcs f q i x0 k hs2 (sn'.set q true)∧Bt w5.heap.size wr' (sL g0 0 1 cap0) [(na:Int)]))
       case atStart=>exact⟨0,hs',Nat.zero_le _,rfl,rfl,hK7.out,hP0.out,hrow.out⟩
       case round=>
        obtain⟨k,hs2,hk,rfl,rfl,HI⟩:=hrel;obtain⟨hKk,hPk,hrk⟩:=HI.out;clear HI hK7 hrow hP0;by_cases hklt:k<1
        rotate_left
        ·have hkI:¬(k:Int)<1:=by omega
         have hnewm:Hid (KS w w.heap.size w0.heap.size w1.heap.size w4.heap.size (.slice ac m.consts.length cc) (sL g o m.funcs.length cf) (sL gc oc f.code.length ck) f hs2 (sn'.set q true) wr∧HInv m.funcs f hs2 (sn'.set q true)∧left (sn'.set q true)<=left sn∧left (sn'.set q true)<left sn):=⟨hKk,hPk.out (by rw[hnx];simp <;> omega),by have:=hls.out;omega,by have:=hls.out;omega⟩;clear hKk hPk hrk hcl hls hnx Ha1 Ha2;go_wp2_with fail;go_roundg (f.code.length - (q+1))
         case measure=>omega
         case rel=>exact⟨q+1,true,hs2,_,by omega,rfl,by go_num,rfl,hnewm.out.1,hnewm.out.2.1,hnewm.out.2.2.1,fun _=>hnewm.out.2.2.2,fun h=>by cases h⟩
        ·have hkI:(k:Int)<1:=by omega
         have hk0:(0:Int)<=(k:Int):=by omega
         obtain⟨qq,hqq⟩:∃qq,(nxt q i)[k]?=some qq:=⟨_,List.getElem?_eq_getElem (by rw[hnx];simp;omega)⟩;have hLk:([(na:Int)]:List Int)[k]?=some (qq:Int):=by
          have e:([(na:Int)]:List Int)=(nxt q i).map (fun (k:Nat)=>(k:Int)):=by rw[hnx];simp
          rw[e,List.getElem?_map,hqq];rfl
         obtain⟨g',cap',e,hgl,hcell⟩:=hrk.get hLk;simp only[Value.slice.injEq,Option.some.injEq,Addr.mk.injEq] at e;obtain⟨⟨rfl,-⟩,-⟩:=e;obtain⟨e0,e1,e2,e3,e4,-,-,-,-,-,hle5⟩:=Ak hKk.fk;have hqq0:(0:Int)<=(qq:Int):=by omega
         clear hLk;by_cases hover:f.code.length<=qq
         ·have hpost:Cb m.funcs f w (.returned (.bool false)) wr:=⟨⟨false,rfl,by simp;exact hPk.no hqq (Or.inl hover)⟩,hKk.below⟩;have hge:(f.code.length:Int)<=(qq:Int):=by omega
          clear hKk hPk hrk hcl hls hnx Ha1 Ha2 hqq;go_wp2;go_ret;exact hpost
         have hlt2:(qq:Int)<(f.code.length:Int):=by omega
         have hnge:¬(f.code.length:Int)<=(qq:Int):=by omega
         obtain⟨y,hy⟩:∃y,hs2[qq]?=some y:=⟨_,List.getElem?_eq_getElem (by have:=hPk.hl;omega)⟩;obtain⟨yc,yf,yl⟩:=hKk.hk.get hy;by_cases hok:y<0∨y=X
         rotate_left
         ·have hpost:Cb m.funcs f w (.returned (.bool false)) wr:=⟨⟨false,rfl,by simp;exact hPk.no hqq (Or.inr ⟨y,hy,by omega,by rw[hX.out];omega⟩)⟩,hKk.below⟩;have hyge:0<=y:=by omega
          have hne:(y != X)=true:=by simp;omega
          clear hKk hPk hrk hcl hls hnx Ha1 Ha2 hqq hy hok hover;go_wp2;go_ret;exact hpost
         have hnew:Hid (KS w w.heap.size w0.heap.size w1.heap.size w4.heap.size (.slice ac m.consts.length cc) (sL g o m.funcs.length cf) (sL gc oc f.code.length ck) f (hs2.set qq X) (sn'.set q true) (wr.setCell ⟨w1.heap.size,qq,none⟩ (iv X))∧HPart m.funcs f q i x0 (k+1) (hs2.set qq X) (sn'.set q true)∧Bt w5.heap.size (wr.setCell ⟨w1.heap.size,qq,none⟩ (iv X)) (sL g0 0 1 cap0) [(na:Int)]):=by
          have h1:=hPk.set ho.stk hqq hy (by rw[hX.out];exact hok);rw[hX.out] at h1;exact⟨hKk.seth qq X,h1,hrk.since (fun j hj=>Below.heap_setCell _ _ _ _ (by have:=(hrk.lt hj).1;show j≠w1.heap.size;omega))⟩
         rcases hok with hyn | hyx
         ·have hyge:¬0<=y:=by omega
          clear hKk hPk hrk hcl hls hnx Ha1 Ha2 hqq hy hover hyn;go_wp2_with fail;go_roundg (1 - (k+1))
          case measure=>omega
          case rel=>exact⟨k+1,_,by omega,rfl,by go_num,hnew⟩
         ·subst hyx;have hne:(y != y)=false:=by simp
          clear hKk hPk hrk hcl hls hnx Ha1 Ha2 hqq hy hover;go_wp2_with fail;go_roundg (1 - (k+1))
          case measure=>omega
          case rel=>exact⟨k+1,_,by omega,rfl,by go_num,hnew⟩
      ·obtain⟨hcase,hnx⟩:=hop;have h7:(i.op == 7)=false:=by rw[hcase];rfl
       have h8:(i.op == 8)=true:=by rw[hcase];rfl
       have n7:(i.op != 7)=true:=by rw[hcase];rfl
       have n10:(i.op != 10)=true:=by rw[hcase];rfl
       obtain⟨na,hna⟩:∃na:Nat,i.a=(na:Int):=⟨i.a.toNat,by have:=ho.jmp i hmem (by omega);omega⟩;rw[hna] at v1;have hna2:i.a.toNat=na:=by omega
       rw[hna2] at hnx;clear hna2;clear hcase;have hrow0:=Bt.nil w5.heap.size w5;have hB50:Below w5.heap.size w5 w5:=Below.refl _ _;obtain⟨wa0,hWa0⟩:∃wa,w5.alloc (.cells #[iV ((na:Int))] 3)=wa:=⟨_,rfl⟩;have hba0:Below w5.heap.size w5 wa0:=by rw[<-hWa0];exact (Below.refl _ _).alloc (Nat.le_refl _) _
       have hxa0:wa0.heap[w5.heap.size]?=some (.cells #[iV ((na:Int))] 3 (0,0)):=by rw[<-hWa0];exact Ai _ _
       have hB5a0:Below w5.heap.size w5 wa0:=hB50.trans (hba0.mono hB50.size);obtain⟨g0,cap0,wb0,hr0,hrow1,hgr0,-⟩:=(hrow0.since (w':=wa0) (fun k hk=>hba0.block k (hrow0.lt hk).2)).push hxa0 hB5a0.size (by simp) 1 122;have hB51:Below w5.heap.size w5 wb0:=hB5a0.trans ((hrow0.since (w':=wa0) (fun k hk=>hba0.block k (hrow0.lt hk).2)).below hgr0 (Nat.le_refl _) hB5a0.size);simp only[List.length_nil,List.length_cons,List.length_append,List.nil_append,List.cons_append,Nat.zero_add,Nat.reduceAdd] at hr0 hrow1;obtain⟨wa1,hWa1⟩:∃wa,wb0.alloc (.cells #[iV ((q:Int)+1)] 3)=wa:=⟨_,rfl⟩;have hba1:Below wb0.heap.size wb0 wa1:=by rw[<-hWa1];exact (Below.refl _ _).alloc (Nat.le_refl _) _
       have hxa1:wa1.heap[wb0.heap.size]?=some (.cells #[iV ((q:Int)+1)] 3 (0,0)):=by rw[<-hWa1];exact Ai _ _
       have hB5a1:Below w5.heap.size w5 wa1:=hB51.trans (hba1.mono hB51.size);obtain⟨g1,cap1,wb1,hr1,hrow2,hgr1,-⟩:=(hrow1.since (w':=wa1) (fun k hk=>hba1.block k (hrow1.lt hk).2)).push hxa1 hB5a1.size (by simp) 1 122;have hB52:Below w5.heap.size w5 wb1:=hB5a1.trans ((hrow1.since (w':=wa1) (fun k hk=>hba1.block k (hrow1.lt hk).2)).below hgr1 (Nat.le_refl _) hB5a1.size);simp only[List.length_nil,List.length_cons,List.length_append,List.nil_append,List.cons_append,Nat.zero_add,Nat.reduceAdd] at hr1 hrow2;have hrow:Hid (Bt w5.heap.size wb1 (sL g1 0 2 cap1) [(na:Int),(q:Int)+1]):=hrow2;have hK7:Hid (KS w w.heap.size w0.heap.size w1.heap.size w4.heap.size (.slice ac m.consts.length cc) (sL g o m.funcs.length cf) (sL gc oc f.code.length ck) f hs' (sn'.set q true) wb1):=hK5.keep hB52;obtain⟨vv0,vv1,-,-,lvv⟩:=Ae ((hB52.block _ lv).trans hv5);obtain⟨aa00,aa01,-,-,laa0⟩:=Ae ((hB5a0.block _ lv).trans hv5);obtain⟨ab00,ab01,-,-,lab0⟩:=Ae ((hB51.block _ lv).trans hv5);obtain⟨aa10,aa11,-,-,laa1⟩:=Ae ((hB5a1.block _ lv).trans hv5);obtain⟨ab10,ab11,-,-,lab1⟩:=Ae ((hB52.block _ lv).trans hv5);clear hrow0 hrow1 hrow2 hxa0 hba0 hB5a0 hgr0 hxa1 hba1 hB5a1 hgr1 hB50 hB51 hB52;go_wp2_with (first | (at_builtin;refine Lib.wpList_append_run _ rfl _ _ 122 122 rfl _ _ rfl rfl _ _ hr0 ?_;clear hr0) | (at_builtin;refine Lib.wpList_append_run _ rfl _ _ 122 122 rfl _ _ rfl rfl _ _ hr1 ?_;clear hr1));clear vv0 vv1 v0 v1 aa00 aa01 ab00 ab01 hWa0 aa10 aa11 ab10 ab11 hWa1
       go_loopg [109] 2 (fun gk j wr'=>∃(k:Nat) (hs2:List Int),k<=2∧gk=2 - k∧j=iv k∧Hid (KS w w.heap.size w0.heap.size w1.heap.size w4.heap.size (.slice ac m.consts.length cc) (sL g o m.funcs.length cf) (sL gc oc f.code.length ck) f hs2 (sn'.set q true) wr'∧HPart m.funcs f q i x0 k hs2 (sn'.set q true)∧Bt w5.heap.size wr' (sL g1 0 2 cap1) [(na:Int),(q:Int)+1]))
       case atStart=>exact⟨0,hs',Nat.zero_le _,rfl,rfl,hK7.out,hP0.out,hrow.out⟩
       case round=>
        obtain⟨k,hs2,hk,rfl,rfl,HI⟩:=hrel;obtain⟨hKk,hPk,hrk⟩:=HI.out;clear HI hK7 hrow hP0;by_cases hklt:k<2
        rotate_left
        ·have hkI:¬(k:Int)<2:=by omega
         have hnewm:Hid (KS w w.heap.size w0.heap.size w1.heap.size w4.heap.size (.slice ac m.consts.length cc) (sL g o m.funcs.length cf) (sL gc oc f.code.length ck) f hs2 (sn'.set q true) wr∧HInv m.funcs f hs2 (sn'.set q true)∧left (sn'.set q true)<=left sn∧left (sn'.set q true)<left sn):=⟨hKk,hPk.out (by rw[hnx];simp <;> omega),by have:=hls.out;omega,by have:=hls.out;omega⟩;clear hKk hPk hrk hcl hls hnx Ha1 Ha2;go_wp2_with fail;go_roundg (f.code.length - (q+1))
         case measure=>omega
         case rel=>exact⟨q+1,true,hs2,_,by omega,rfl,by go_num,rfl,hnewm.out.1,hnewm.out.2.1,hnewm.out.2.2.1,fun _=>hnewm.out.2.2.2,fun h=>by cases h⟩
        ·have hkI:(k:Int)<2:=by omega
         have hk0:(0:Int)<=(k:Int):=by omega
         obtain⟨qq,hqq⟩:∃qq,(nxt q i)[k]?=some qq:=⟨_,List.getElem?_eq_getElem (by rw[hnx];simp;omega)⟩;have hLk:([(na:Int),(q:Int)+1]:List Int)[k]?=some (qq:Int):=by
          have e:([(na:Int),(q:Int)+1]:List Int)=(nxt q i).map (fun (k:Nat)=>(k:Int)):=by rw[hnx];simp
          rw[e,List.getElem?_map,hqq];rfl
         obtain⟨g',cap',e,hgl,hcell⟩:=hrk.get hLk;simp only[Value.slice.injEq,Option.some.injEq,Addr.mk.injEq] at e;obtain⟨⟨rfl,-⟩,-⟩:=e;obtain⟨e0,e1,e2,e3,e4,-,-,-,-,-,hle5⟩:=Ak hKk.fk;have hqq0:(0:Int)<=(qq:Int):=by omega
         clear hLk;by_cases hover:f.code.length<=qq
         ·have hpost:Cb m.funcs f w (.returned (.bool false)) wr:=⟨⟨false,rfl,by simp;exact hPk.no hqq (Or.inl hover)⟩,hKk.below⟩;have hge:(f.code.length:Int)<=(qq:Int):=by omega
          clear hKk hPk hrk hcl hls hnx Ha1 Ha2 hqq;go_wp2;go_ret;exact hpost
         have hlt2:(qq:Int)<(f.code.length:Int):=by omega
         have hnge:¬(f.code.length:Int)<=(qq:Int):=by omega
         obtain⟨y,hy⟩:∃y,hs2[qq]?=some y:=⟨_,List.getElem?_eq_getElem (by have:=hPk.hl;omega)⟩;obtain⟨yc,yf,yl⟩:=hKk.hk.get hy;by_cases hok:y<0∨y=X
         rotate_left
         ·have hpost:Cb m.funcs f w (.returned (.bool false)) wr:=⟨⟨false,rfl,by simp;exact hPk.no hqq (Or.inr ⟨y,hy,by omega,by rw[hX.out];omega⟩)⟩,hKk.below⟩;have hyge:0<=y:=by omega
          have hne:(y != X)=true:=by simp;omega
          clear hKk hPk hrk hcl hls hnx Ha1 Ha2 hqq hy hok hover;go_wp2;go_ret;exact hpost
         have hnew:Hid (KS w w.heap.size w0.heap.size w1.heap.size w4.heap.size (.slice ac m.consts.length cc) (sL g o m.funcs.length cf) (sL gc oc f.code.length ck) f (hs2.set qq X) (sn'.set q true) (wr.setCell ⟨w1.heap.size,qq,none⟩ (iv X))∧HPart m.funcs f q i x0 (k+1) (hs2.set qq X) (sn'.set q true)∧Bt w5.heap.size (wr.setCell ⟨w1.heap.size,qq,none⟩ (iv X)) (sL g1 0 2 cap1) [(na:Int),(q:Int)+1]):=by
          have h1:=hPk.set ho.stk hqq hy (by rw[hX.out];exact hok);rw[hX.out] at h1;exact⟨hKk.seth qq X,h1,hrk.since (fun j hj=>Below.heap_setCell _ _ _ _ (by have:=(hrk.lt hj).1;show j≠w1.heap.size;omega))⟩
         rcases hok with hyn | hyx
         ·have hyge:¬0<=y:=by omega
          clear hKk hPk hrk hcl hls hnx Ha1 Ha2 hqq hy hover hyn;go_wp2_with fail;go_roundg (2 - (k+1))
          case measure=>omega
          case rel=>exact⟨k+1,_,by omega,rfl,by go_num,hnew⟩
         ·subst hyx;have hne:(y != y)=false:=by simp
          clear hKk hPk hrk hcl hls hnx Ha1 Ha2 hqq hy hover;go_wp2_with fail;go_roundg (2 - (k+1))
          case measure=>omega
          case rel=>exact⟨k+1,_,by omega,rfl,by go_num,hnew⟩
      ·obtain⟨hcase,hnx⟩:=hop;have h7:(i.op == 7)=false:=by rw[hcase];rfl
       have h8:(i.op == 8)=false:=by rw[hcase];rfl
       have n7:(i.op != 7)=true:=by rw[hcase];rfl
       have n10:(i.op != 10)=false:=by rw[hcase];rfl
       clear hcase;have hrow0:=Bt.nil w5.heap.size w5;have hB50:Below w5.heap.size w5 w5:=Below.refl _ _;have hrow:Hid (Bt w5.heap.size w5 sZ []):=hrow0;have hK7:Hid (KS w w.heap.size w0.heap.size w1.heap.size w4.heap.size (.slice ac m.consts.length cc) (sL g o m.funcs.length cf) (sL gc oc f.code.length ck) f hs' (sn'.set q true) w5):=hK5.keep hB50;obtain⟨vv0,vv1,-,-,lvv⟩:=Ae ((hB50.block _ lv).trans hv5);clear hrow0  hB50;go_wp2_with fail;clear vv0 vv1 v0 v1
       go_loopg [109] 0 (fun gk j wr'=>∃(k:Nat) (hs2:List Int),k<=0∧gk=0 - k∧j=iv k∧Hid (KS w w.heap.size w0.heap.size w1.heap.size w4.heap.size (.slice ac m.consts.length cc) (sL g o m.funcs.length cf) (sL gc oc f.code.length ck) f hs2 (sn'.set q true) wr'∧HPart m.funcs f q i x0 k hs2 (sn'.set q true)∧Bt w5.heap.size wr' sZ []))
       case atStart=>exact⟨0,hs',Nat.zero_le _,rfl,rfl,hK7.out,hP0.out,hrow.out⟩
       case round=>
        obtain⟨k,hs2,hk,rfl,rfl,HI⟩:=hrel;obtain⟨hKk,hPk,hrk⟩:=HI.out;clear HI hK7 hrow hP0;by_cases hklt:k<0
        rotate_left
        ·have hkI:¬(k:Int)<0:=by omega
         have hnewm:Hid (KS w w.heap.size w0.heap.size w1.heap.size w4.heap.size (.slice ac m.consts.length cc) (sL g o m.funcs.length cf) (sL gc oc f.code.length ck) f hs2 (sn'.set q true) wr∧HInv m.funcs f hs2 (sn'.set q true)∧left (sn'.set q true)<=left sn∧left (sn'.set q true)<left sn):=⟨hKk,hPk.out (by rw[hnx];simp <;> omega),by have:=hls.out;omega,by have:=hls.out;omega⟩;clear hKk hPk hrk hcl hls hnx Ha1 Ha2;go_wp2_with fail;go_roundg (f.code.length - (q+1))
         case measure=>omega
         case rel=>exact⟨q+1,true,hs2,_,by omega,rfl,by go_num,rfl,hnewm.out.1,hnewm.out.2.1,hnewm.out.2.2.1,fun _=>hnewm.out.2.2.2,fun h=>by cases h⟩
        ·omega
      ·obtain⟨hcase,hnx⟩:=hop;have h7:(i.op == 7)=false:=by simp[hcase]
       have h8:(i.op == 8)=false:=by simp[hcase]
       have n7:(i.op != 7)=true:=by simp[hcase]
       have n10:(i.op != 10)=true:=by simp[hcase]
       clear hcase;have hrow0:=Bt.nil w5.heap.size w5;have hB50:Below w5.heap.size w5 w5:=Below.refl _ _;obtain⟨wa0,hWa0⟩:∃wa,w5.alloc (.cells #[iV ((q:Int)+1)] 3)=wa:=⟨_,rfl⟩;have hba0:Below w5.heap.size w5 wa0:=by rw[<-hWa0];exact (Below.refl _ _).alloc (Nat.le_refl _) _
       have hxa0:wa0.heap[w5.heap.size]?=some (.cells #[iV ((q:Int)+1)] 3 (0,0)):=by rw[<-hWa0];exact Ai _ _
       have hB5a0:Below w5.heap.size w5 wa0:=hB50.trans (hba0.mono hB50.size);obtain⟨g0,cap0,wb0,hr0,hrow1,hgr0,-⟩:=(hrow0.since (w':=wa0) (fun k hk=>hba0.block k (hrow0.lt hk).2)).push hxa0 hB5a0.size (by simp) 1 122;have hB51:Below w5.heap.size w5 wb0:=hB5a0.trans ((hrow0.since (w':=wa0) (fun k hk=>hba0.block k (hrow0.lt hk).2)).below hgr0 (Nat.le_refl _) hB5a0.size);simp only[List.length_nil,List.length_cons,List.length_append,List.nil_append,List.cons_append,Nat.zero_add,Nat.reduceAdd] at hr0 hrow1;have hrow:Hid (Bt w5.heap.size wb0 (sL g0 0 1 cap0) [(q:Int)+1]):=hrow1;have hK7:Hid (KS w w.heap.size w0.heap.size w1.heap.size w4.heap.size (.slice ac m.consts.length cc) (sL g o m.funcs.length cf) (sL gc oc f.code.length ck) f hs' (sn'.set q true) wb0):=hK5.keep hB51;obtain⟨vv0,vv1,-,-,lvv⟩:=Ae ((hB51.block _ lv).trans hv5);obtain⟨aa00,aa01,-,-,laa0⟩:=Ae ((hB5a0.block _ lv).trans hv5);obtain⟨ab00,ab01,-,-,lab0⟩:=Ae ((hB51.block _ lv).trans hv5);clear hrow0 hrow1 hxa0 hba0 hB5a0 hgr0 hB50 hB51;go_wp2_with (at_builtin;refine Lib.wpList_append_run _ rfl _ _ 122 122 rfl _ _ rfl rfl _ _ hr0 ?_;clear hr0);clear vv0 vv1 v0 v1 aa00 aa01 ab00 ab01 hWa0
       go_loopg [109] 1 (fun gk j wr'=>∃(k:Nat) (hs2:List Int),k<=1∧gk=1 - k∧j=iv k∧Hid (KS w w.heap.size w0.heap.size w1.heap.size w4.heap.size (.slice ac m.consts.length cc) (sL g o m.funcs.length cf) (sL gc oc f.code.length ck) f hs2 (sn'.set q true) wr'∧HPart m.funcs f q i x0 k hs2 (sn'.set q true)∧Bt w5.heap.size wr' (sL g0 0 1 cap0) [(q:Int)+1]))
       case atStart=>exact⟨0,hs',Nat.zero_le _,rfl,rfl,hK7.out,hP0.out,hrow.out⟩
       case round=>
        obtain⟨k,hs2,hk,rfl,rfl,HI⟩:=hrel;obtain⟨hKk,hPk,hrk⟩:=HI.out;clear HI hK7 hrow hP0;by_cases hklt:k<1
        rotate_left
        ·have hkI:¬(k:Int)<1:=by omega
         have hnewm:Hid (KS w w.heap.size w0.heap.size w1.heap.size w4.heap.size (.slice ac m.consts.length cc) (sL g o m.funcs.length cf) (sL gc oc f.code.length ck) f hs2 (sn'.set q true) wr∧HInv m.funcs f hs2 (sn'.set q true)∧left (sn'.set q true)<=left sn∧left (sn'.set q true)<left sn):=⟨hKk,hPk.out (by rw[hnx];simp <;> omega),by have:=hls.out;omega,by have:=hls.out;omega⟩;clear hKk hPk hrk hcl hls hnx Ha1 Ha2;go_wp2_with fail;go_roundg (f.code.length - (q+1))
         case measure=>omega
         case rel=>exact⟨q+1,true,hs2,_,by omega,rfl,by go_num,rfl,hnewm.out.1,hnewm.out.2.1,hnewm.out.2.2.1,fun _=>hnewm.out.2.2.2,fun h=>by cases h⟩
        ·have hkI:(k:Int)<1:=by omega
         have hk0:(0:Int)<=(k:Int):=by omega
         obtain⟨qq,hqq⟩:∃qq,(nxt q i)[k]?=some qq:=⟨_,List.getElem?_eq_getElem (by rw[hnx];simp;omega)⟩;have hLk:([(q:Int)+1]:List Int)[k]?=some (qq:Int):=by
          have e:([(q:Int)+1]:List Int)=(nxt q i).map (fun (k:Nat)=>(k:Int)):=by rw[hnx];simp
          rw[e,List.getElem?_map,hqq];rfl
         obtain⟨g',cap',e,hgl,hcell⟩:=hrk.get hLk;simp only[Value.slice.injEq,Option.some.injEq,Addr.mk.injEq] at e;obtain⟨⟨rfl,-⟩,-⟩:=e;obtain⟨e0,e1,e2,e3,e4,-,-,-,-,-,hle5⟩:=Ak hKk.fk;have hqq0:(0:Int)<=(qq:Int):=by omega
         clear hLk;by_cases hover:f.code.length<=qq
         ·have hpost:Cb m.funcs f w (.returned (.bool false)) wr:=⟨⟨false,rfl,by simp;exact hPk.no hqq (Or.inl hover)⟩,hKk.below⟩;have hge:(f.code.length:Int)<=(qq:Int):=by omega
          clear hKk hPk hrk hcl hls hnx Ha1 Ha2 hqq;go_wp2;go_ret;exact hpost
         have hlt2:(qq:Int)<(f.code.length:Int):=by omega
         have hnge:¬(f.code.length:Int)<=(qq:Int):=by omega
         obtain⟨y,hy⟩:∃y,hs2[qq]?=some y:=⟨_,List.getElem?_eq_getElem (by have:=hPk.hl;omega)⟩;obtain⟨yc,yf,yl⟩:=hKk.hk.get hy;by_cases hok:y<0∨y=X
         rotate_left
         ·have hpost:Cb m.funcs f w (.returned (.bool false)) wr:=⟨⟨false,rfl,by simp;exact hPk.no hqq (Or.inr ⟨y,hy,by omega,by rw[hX.out];omega⟩)⟩,hKk.below⟩;have hyge:0<=y:=by omega
          have hne:(y != X)=true:=by simp;omega
          clear hKk hPk hrk hcl hls hnx Ha1 Ha2 hqq hy hok hover;go_wp2;go_ret;exact hpost
         have hnew:Hid (KS w w.heap.size w0.heap.size w1.heap.size w4.heap.size (.slice ac m.consts.length cc) (sL g o m.funcs.length cf) (sL gc oc f.code.length ck) f (hs2.set qq X) (sn'.set q true) (wr.setCell ⟨w1.heap.size,qq,none⟩ (iv X))∧HPart m.funcs f q i x0 (k+1) (hs2.set qq X) (sn'.set q true)∧Bt w5.heap.size (wr.setCell ⟨w1.heap.size,qq,none⟩ (iv X)) (sL g0 0 1 cap0) [(q:Int)+1]):=by
          have h1:=hPk.set ho.stk hqq hy (by rw[hX.out];exact hok);rw[hX.out] at h1;exact⟨hKk.seth qq X,h1,hrk.since (fun j hj=>Below.heap_setCell _ _ _ _ (by have:=(hrk.lt hj).1;show j≠w1.heap.size;omega))⟩
         rcases hok with hyn | hyx
         ·have hyge:¬0<=y:=by omega
          clear hKk hPk hrk hcl hls hnx Ha1 Ha2 hqq hy hover hyn;go_wp2_with fail;go_roundg (1 - (k+1))
          case measure=>omega
          case rel=>exact⟨k+1,_,by omega,rfl,by go_num,hnew⟩
         ·subst hyx;have hne:(y != y)=false:=by simp
          clear hKk hPk hrk hcl hls hnx Ha1 Ha2 hqq hy hover;go_wp2_with fail;go_roundg (1 - (k+1))
          case measure=>omega
          case rel=>exact⟨k+1,_,by omega,rfl,by go_num,hnew⟩
end
end Go.Proofs.YtnijcolomoobnaaGreatDoor
