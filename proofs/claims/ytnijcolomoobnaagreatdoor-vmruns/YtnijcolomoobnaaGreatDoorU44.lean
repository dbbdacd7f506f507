/- Texts of ours, joined. -/
import Derived.Test.YtnijcolomoobnaaGreatDoorU43
import Derived.Test.YtnijcolomoobnaaGreatDoorU32
import Derived.Test.YtnijcolomoobnaaGreatDoorU31
set_option linter.unusedVariables false
set_option linter.unusedSimpArgs false
set_option maxRecDepth 100000
set_option maxHeartbeats 16000000
namespace Go.Proofs.YtnijcolomoobnaaGreatDoor
section
open Go.RowKit
attribute [local go_sem ↓] Go.wp_at_zero Go.wp_at_succ
theorem Ka(K:FuncId)(w:World):Calls Tryz.prog 53 #[.func (Fn.func K) #[] #[]] w fun r w'=>r=.returned (.func (Fn.func 84) #[] #[pt w.heap.size 0])∧w'=w.alloc (.cells #[.func (Fn.func K) #[] #[]] 81):=by
 have hmf:∀(fn:Fn) (first cap:Array Value) (w:World),(Instr.makeFunc fn first cap).run Tryz.prog w=.ok (.func fn first cap) w:=fun _ _ _ _=>rfl
 go_enter Tryz.func53,Tryz.ntmps53;go_wp2;go_ret;exact⟨rfl,rfl⟩
theorem Gt(K:FuncId)(w:World):Calls Tryz.prog 59 #[.func (Fn.func K) #[] #[]] w fun r w'=>r=.returned (.func (Fn.func 94) #[] #[pt w.heap.size 0])∧w'=w.alloc (.cells #[.func (Fn.func K) #[] #[]] 83):=by
 have hmf:∀(fn:Fn) (first cap:Array Value) (w:World),(Instr.makeFunc fn first cap).run Tryz.prog w=.ok (.func fn first cap) w:=fun _ _ _ _=>rfl
 go_enter Tryz.func59,Tryz.ntmps59;go_wp2;go_ret;exact⟨rfl,rfl⟩
theorem G9(w:World)(v:Value)(T:TypeId):∃w0,w.alloc (.cells #[v] T)=w0∧Below w.heap.size w w0∧w0.heap.size=w.heap.size+1∧w0.heap[w.heap.size]?=some (.cells #[v] T (0,0)):=⟨_,rfl,(Below.refl _ _).alloc (Nat.le_refl _) _,by simp,Ai _ _⟩
theorem Ol(w:World):Calls Tryz.prog 26 #[] w fun r w'=>∃gd g13 g16 g18 g19 g21:Nat,r=.returned (sL gd 0 22 22)∧w'.heap[gd]?=some (.cells (N2 g13 g16 g18 g19 g21) 79 (0,0)) ∧
  w'.heap[g13]?=some (.cells #[.func (Fn.func 54) #[] #[]] 81 (0,0))∧w'.heap[g16]?=some (.cells #[.func (Fn.func 57) #[] #[]] 81 (0,0)) ∧
  w'.heap[g18]?=some (.cells #[.func (Fn.func 60) #[] #[]] 83 (0,0))∧w'.heap[g19]?=some (.cells #[.func (Fn.func 61) #[] #[]] 83 (0,0))∧w'.heap[g21]?=some (.cells #[.func (Fn.func 63) #[] #[]] 83 (0,0)) ∧
  (∀k,k=gd∨k=g13∨k=g16∨k=g18∨k=g19∨k=g21->w.heap.size<=k∧k<w'.heap.size)∧Below w.heap.size w w':=by
 have hmf:∀(fn:Fn) (first cap:Array Value) (w:World),(Instr.makeFunc fn first cap).run Tryz.prog w=.ok (.func fn first cap) w:=fun _ _ _ _=>rfl
 obtain⟨w1,hW1,hb1,hs1,hx1⟩:=G9 w (.func (Fn.func 54) #[] #[]) 81;obtain⟨w2,hW2,hb2,hs2,hx2⟩:=G9 w1 (.func (Fn.func 57) #[] #[]) 81;obtain⟨w3,hW3,hb3,hs3,hx3⟩:=G9 w2 (.func (Fn.func 60) #[] #[]) 83;obtain⟨w4,hW4,hb4,hs4,hx4⟩:=G9 w3 (.func (Fn.func 61) #[] #[]) 83;obtain⟨w5,hW5,hb5,hs5,hx5⟩:=G9 w4 (.func (Fn.func 63) #[] #[]) 83;obtain⟨w6,hW6,hb6,hs6,hx6⟩:∃w6,w5.alloc (.cells (N2 w.heap.size w1.heap.size w2.heap.size w3.heap.size w4.heap.size) 79)=w6∧Below w5.heap.size w5 w6∧w6.heap.size=w5.heap.size+1∧w6.heap[w5.heap.size]?=some (.cells (N2 w.heap.size w1.heap.size w2.heap.size w3.heap.size w4.heap.size) 79 (0,0)):=⟨_,rfl,(Below.refl _ _).alloc (Nat.le_refl _) _,by simp,Ai _ _⟩;unfold N2 at hW6;have c1:=Ka 54 w;have c2:=Ka 57 w1;have c3:=Gt 60 w2;have c4:=Gt 61 w3;have c5:=Gt 63 w4;rw[hW1] at c1;rw[hW2] at c2;rw[hW3] at c3;rw[hW4] at c4;rw[hW5] at c5;have hfin:Hid (∃gd g13 g16 g18 g19 g21:Nat,Ending.returned (sL w5.heap.size 0 22 22)=.returned (sL gd 0 22 22)∧w6.heap[gd]?=some (.cells (N2 g13 g16 g18 g19 g21) 79 (0,0)) ∧
  w6.heap[g13]?=some (.cells #[.func (Fn.func 54) #[] #[]] 81 (0,0))∧w6.heap[g16]?=some (.cells #[.func (Fn.func 57) #[] #[]] 81 (0,0)) ∧
  w6.heap[g18]?=some (.cells #[.func (Fn.func 60) #[] #[]] 83 (0,0))∧w6.heap[g19]?=some (.cells #[.func (Fn.func 61) #[] #[]] 83 (0,0))∧w6.heap[g21]?=some (.cells #[.func (Fn.func 63) #[] #[]] 83 (0,0)) ∧
  (∀k,k=gd∨k=g13∨k=g16∨k=g18∨k=g19∨k=g21->w.heap.size<=k∧k<w6.heap.size)∧Below w.heap.size w w6):=by
  have hb56:=hb6;have hb46:Below w4.heap.size w4 w6:=hb5.trans (hb6.mono (by omega));have hb36:Below w3.heap.size w3 w6:=hb4.trans (hb46.mono (by omega));have hb26:Below w2.heap.size w2 w6:=hb3.trans (hb36.mono (by omega));have hb16:Below w1.heap.size w1 w6:=hb2.trans (hb26.mono (by omega));have hb06:Below w.heap.size w w6:=hb1.trans (hb16.mono (by omega));exact⟨w5.heap.size,w.heap.size,w1.heap.size,w2.heap.size,w3.heap.size,w4.heap.size,rfl,hx6,(hb16.block _ (by omega)).trans hx1,(hb26.block _ (by omega)).trans hx2,(hb36.block _ (by omega)).trans hx3,(hb46.block _ (by omega)).trans hx4,(hb56.block _ (by omega)).trans hx5,fun k hk=>by omega,hb06⟩
 clear hb1 hb2 hb3 hb4 hb5 hb6 hs1 hs2 hs3 hs4 hs5 hs6 hx1 hx2 hx3 hx4 hx5 hx6 hW1 hW2 hW3 hW4 hW5;go_enter Tryz.func26,Tryz.ntmps26;go_wp2_with fail;refine c1.mono ?_;rintro r wx ⟨rfl,hw⟩;subst hw;clear c1;go_wp2_with fail;refine c2.mono ?_;rintro r wx ⟨rfl,hw⟩;subst hw;clear c2;go_wp2_with fail;refine c3.mono ?_;rintro r wx ⟨rfl,hw⟩;subst hw;clear c3;go_wp2_with fail;refine c4.mono ?_;rintro r wx ⟨rfl,hw⟩;subst hw;clear c4;go_wp2_with fail;refine c5.mono ?_;rintro r wx ⟨rfl,hw⟩;subst hw;clear c5;go_wp2_with fail;go_ret;exact hfin.out
theorem Om{B:Nat->Prop}{w:World}{l:List V}{a:Option Addr}{c:Nat}(h:Al B w l (.slice a l.length c))(hl:l.length<=800000)(hB:∀k,w.heap.size<=k->B k):Calls Tryz.prog 27 #[.slice a l.length c] w fun r w'=>∃a1 c1,r=.returned (.slice a1 l.length c1)∧Gv B w' (.slice a1 l.length c1) l∧Below w.heap.size w w'∧∀k,(Value.slice a1 l.length c1).ownBlock=some k->w.heap.size<=k:=by
 have q0:∀wx:World,(binOp .eql 22 sZ sZ).run Tryz.prog wx=.ok (.bool true) wx:=fun _=>by kernel_rfl
 have q1:∀(ad:Addr) (n c:Nat) (wx:World),(binOp .eql 22 (.slice (some ad) n c) sZ).run Tryz.prog wx=.ok (.bool false) wx:=fun _ _ _ _=>by kernel_rfl
 cases a with
 | none=>
  obtain⟨nrow,-,-,h3,-⟩:=h.news;obtain⟨h0,rfl⟩:=h3 rfl;obtain rfl:l=[]:=List.eq_nil_of_length_eq_zero h0;clear h hl;go_enter Tryz.func27,Tryz.ntmps27;go_wp2;go_ret;exact⟨none,0,rfl,Gv.nil _ _,Below.refl _ _,fun k e1=>by cases e1⟩
 | some ad=>
  obtain⟨wa,a1,c1,w1,hWa,hr1,hG1,hb1,ho1⟩:=D8 h (by omega) hB;have hfin:Hid (∃a2 c2,Ending.returned (.slice a1 l.length c1)=.returned (.slice a2 l.length c2)∧Gv B w1 (.slice a2 l.length c2) l∧Below w.heap.size w w1∧∀k,(Value.slice a2 l.length c2).ownBlock=some k->w.heap.size<=k):=⟨a1,c1,rfl,hG1,hb1,ho1⟩;clear h hG1 hb1 ho1 hB;go_enter Tryz.func27,Tryz.ntmps27;go_wp2_with (at_builtin;refine Lib.wpList_append_run _ rfl _ _ 22 22 rfl _ _ rfl rfl _ _ hr1 ?_;clear hr1);go_ret;exact hfin.out
open Classical in
noncomputable def E8 (v:V):Bool:=decide (Snd v)
theorem Gf{v:V}:E8 v=true↔Snd v:=by unfold E8;simp
theorem H0{l:List V}:l.all E8=true↔Av l:=by
 rw[List.all_eq_true];exact⟨fun h v hv=>Gf.1 (h v hv),fun h v hv=>Gf.2 (h v hv)⟩
theorem Jc{B:Nat->Prop}{l:List V}(hw:∀v∈l,wt v<=1000000):J3 9 B l E8:=fun v sl w hv hx=>by
 refine (Qi hx (hw v hv)).mono ?_;rintro r w' ⟨⟨b,rfl,hb⟩,hbl⟩;have e:b=E8 v:=by rw[Bool.eq_iff_iff,hb,Gf]
 exact⟨by rw[e],hbl⟩
theorem Ms{B:Nat->Prop}{m:Md}{ac af as_ aa:Option Addr}{cc cf cs_ ca:Nat}{states args:List V}{n:Int}{w:World}(hm:IsMd B w m (.slice ac m.consts.length cc) (.slice af m.funcs.length cf))(hfit:Fit m)(hs:Al B w states (.slice as_ states.length cs_))(ha:Al B w args (.slice aa args.length ca))(hws:∀v∈states,wt v<=1000000)(hwa:∀v∈args,wt v<=1000000) :
  Calls Tryz.prog 25 #[.agg #[.slice ac m.consts.length cc,.slice af m.funcs.length cf],.slice as_ states.length cs_,iv n,.slice aa args.length ca] w fun r w'=>Bn (VOk m states n args) r∧Below w.heap.size w w':=by
 obtain⟨w1,hW1,hb1,hl1,hx1⟩:=Dq w (.slice ac m.consts.length cc) (.slice af m.funcs.length cf) 25;have hlw1:w.heap.size<w1.heap.size:=by omega
 have hV:=Oj (hm.below hb1) hfit (states.length:Int);have hfl:m.funcs.length<=9223372036854775807:=by obtain⟨_,_,e,h1,h2⟩:=hm.fun_.slice;cases e;omega
 have hsl:states.length<=9223372036854775807:=by obtain⟨_,_,e,h1,h2⟩:=hs.slice;cases e;omega
 have hal:args.length<=9223372036854775807:=by obtain⟨_,_,e,h1,h2⟩:=ha.slice;cases e;omega
 have hcell:∀wr,Below w1.heap.size w1 wr->wr.cell? ⟨w.heap.size,0,none⟩=some (.slice ac m.consts.length cc)∧wr.cell? ⟨w.heap.size,1,none⟩=some (.slice af m.funcs.length cf)∧w.heap.size<wr.heap.size:=fun wr hb=>by
  obtain⟨q0,q1,-,-,q2⟩:=Ae ((hb.block _ hlw1).trans hx1);exact⟨q0,q1,q2⟩
 have hAs:∀wr,Below w.heap.size w wr->Calls Tryz.prog 36 #[.slice as_ states.length cs_,.func (Fn.func 9) #[] #[]] wr fun r w'=>r=.returned (.bool (states.all E8))∧Below wr.heap.size wr w':=fun wr hb=>Fq (Jc hws) F7 (hs.below hb)
 have hAa:∀wr,Below w.heap.size w wr->Calls Tryz.prog 36 #[.slice aa args.length ca,.func (Fn.func 9) #[] #[]] wr fun r w'=>r=.returned (.bool (args.all E8))∧Below wr.heap.size wr w':=fun wr hb=>Fq (Jc hwa) F7 (ha.below hb)
 obtain⟨k0,k1,k2⟩:=hcell w1 (Below.refl _ _);have Hcell:Hid _:=hcell;have HAs:Hid _:=hAs;have HAa:Hid _:=hAa;have hfun:∀(k:Nat) (f:Fu) (wr:World),m.funcs[k]?=some f->Below w.heap.size w wr->∃g o,af=some ⟨g,o,none⟩∧g<wr.heap.size∧wr.cell? ⟨g,o+k*5,none⟩=some (iv f.params):=fun k f wr hk hb=>by
  obtain⟨g,o,_,_,e,-,hg,p0,-⟩:=(hm.below hb).fun_.get hk;exact⟨g,o,e,hg,p0⟩
 have Hfun:Hid _:=hfun;have Hb1:Hid (Below w.heap.size w w1):=hb1;clear hm hs ha hws hwa hx1 hl1 hcell hAs hAa hfun hfit hb1;by_cases hR:Run m (states.length:Int)
 ·rw[H8 hR] at hV;by_cases h0:0<=n
  ·obtain⟨k,rfl⟩:∃k:Nat,n=(k:Int):=⟨n.toNat,by omega⟩;by_cases h1:k<m.funcs.length
   ·have h1I:(k:Int)<(m.funcs.length:Int):=by omega
    have hf:=List.getElem?_eq_getElem h1;generalize m.funcs[k]=f at hf;have HVok:Hid ((args.length:Int)=f.params->states.all E8=true->args.all E8=true->VOk m states (k:Int) args):=fun e1 e2 e3=>⟨hR,h0,h1I,fun f' hf'=>by
     have:f=f':=Option.some.inj (hf.symm.trans (by simpa using hf'));rw[<-this];exact e1,H0.1 e2,H0.1 e3⟩
    have HVno:Hid (VOk m states (k:Int) args->(args.length:Int)=f.params∧states.all E8=true∧args.all E8=true):=fun h=>⟨h.par f (by simpa using hf),H0.2 h.st,H0.2 h.ar⟩
    have Hf:Hid (m.funcs[k]?=some f):=hf;clear hR hf;generalize states.all E8=bs at *;generalize args.all E8=ba at *;go_enter Tryz.func25,Tryz.ntmps25;go_wp2_with fail;refine hV.mono ?_;rintro r w2 ⟨rfl,hb2⟩;clear hV;obtain⟨j0,j1,j2⟩:=Hcell.out w2 hb2;have hB2:Below w.heap.size w w2:=Hb1.out.trans (hb2.mono Hb1.out.size);obtain⟨g,o,rfl,hg,p0⟩:=Hfun.out k f w2 Hf.out hB2;have hcs:=HAs.out w2 hB2;clear k0 k1 k2 Hfun Hf;rcases num_bool (args.length:Int) f.params with⟨ep,cp⟩ | ⟨ep,cp⟩
    ·have Hcp:Hid _:=cp;clear cp;go_wp2_with fail;refine hcs.mono ?_;rintro r w3 ⟨rfl,hb3⟩;clear hcs;have hB3:Below w.heap.size w w3:=hB2.trans (hb3.mono hB2.size);have hca:=HAa.out w3 hB3;cases bs
     ·go_wp2;go_ret;exact⟨C7 (fun h=>by have:=(HVno.out h).2.1;cases this),hB3⟩
     ·go_wp2_with fail
      refine hca.mono ?_;rintro r w4 ⟨rfl,hb4⟩;clear hca;have hB4:Below w.heap.size w w4:=hB3.trans (hb4.mono hB3.size);have hfin:Hid (ba=true↔VOk m states (k:Int) args):=⟨fun e1=>HVok.out Hcp.out (by simp) e1,fun h=>(HVno.out h).2.2⟩;clear HVok HVno;go_wp2;go_ret;exact⟨⟨ba,rfl,hfin.out⟩,hB4⟩
    ·have hno:Hid (¬VOk m states (k:Int) args):=fun h=>cp (HVno.out h).1
     clear cp hcs HVok HVno;go_wp2;go_ret;exact⟨C7 hno.out,hB2⟩
   ·have h1I:¬(k:Int)<(m.funcs.length:Int):=by omega
    have hno:Hid (¬VOk m states (k:Int) args):=fun h=>h1I h.hi
    clear hR;go_enter Tryz.func25,Tryz.ntmps25;go_wp2_with fail;refine hV.mono ?_;rintro r w2 ⟨rfl,hb2⟩;clear hV;obtain⟨j0,j1,j2⟩:=Hcell.out w2 hb2;have hB2:Below w.heap.size w w2:=Hb1.out.trans (hb2.mono Hb1.out.size);clear k0 k1 k2;go_wp2;go_ret;exact⟨C7 hno.out,hB2⟩
  ·have hno:Hid (¬VOk m states n args):=fun h=>h0 h.lo
   clear hR;go_enter Tryz.func25,Tryz.ntmps25;go_wp2_with fail;refine hV.mono ?_;rintro r w2 ⟨rfl,hb2⟩;clear hV;have hB2:Below w.heap.size w w2:=Hb1.out.trans (hb2.mono Hb1.out.size);clear k0 k1 k2;go_wp2;go_ret;exact⟨C7 hno.out,hB2⟩
 ·rw[H9 hR] at hV;have hno:Hid (¬VOk m states n args):=fun h=>hR h.run
  clear hR;go_enter Tryz.func25,Tryz.ntmps25;go_wp2_with fail;refine hV.mono ?_;rintro r w2 ⟨rfl,hb2⟩;clear hV;have hB2:Below w.heap.size w w2:=Hb1.out.trans (hb2.mono Hb1.out.size);clear k0 k1 k2;go_wp2;go_ret;exact⟨C7 hno.out,hB2⟩
theorem Oo(t:Int)(w:World):Calls Tryz.prog 30 #[.iface 85 (.agg #[iv t])] w fun e w'=>e=.returned (iv t)∧Below w.heap.size w w':=by
 have hta:∀w1:World,(Instr.typeAssert (.iface 85 (.agg #[iv t])) 20 85 true).run Tryz.prog w1=.ok (.tuple #[.agg #[iv t],.bool true]) w1:=fun _=>by kernel_rfl
 obtain⟨w1,hW1,hb1,hs1,hx1⟩:=G9 w (iv t) 85;have c0:=Ap hx1;have hl:w.heap.size<w1.heap.size:=by omega
 clear hs1 hx1;go_enter Tryz.func30,Tryz.ntmps30;go_wp2;go_ret;exact⟨rfl,hb1⟩
theorem Q2(p q r s:Addr)(w:World) :
  CallsD Tryz.prog 28 #[.pointer (some p),.pointer (some q),.pointer (some r),.pointer (some s)] .returning w fun e u' w'=>e=.returned (.tuple #[])∧u'=.returning∧w'=w:=by
 refine callsD_of_wpS Tryz.func28 rfl fun c₀ cs hu=>?_
 apply wpS_seq;apply wpS_region;simp[wpOpsS,go_sem,recoverD,hu,Tryz.ntmps28,Exit.thenS];refine wpS_of_wp ?_;go_wp2;cases c₀
 simp_all [bodyPostS,results,Tryz.results28]
abbrev slO(v:Value):Obj:=.cells #[v] 22 (0,0)
abbrev ptO(p:Nat):Obj:=.cells #[pt p 0] 58 (0,0)
abbrev ouO(a b c d e f:Value):Obj:=.cells #[a,b,c,d,e,f] 35 (0,0)
theorem T7{wq:World}{y0 y1 y2 y3 y4 y5:Value}{T:TypeId}{g:Nat}(hx:wq.heap[g]?=some (.cells #[y0,y1,y2,y3,y4,y5] T (0,0)))(x0 x1 x2 x3 x4 x5:Value):∃wN,(((((wq.setCell ⟨g,0,none⟩ x0).setCell ⟨g,1,none⟩ x1).setCell ⟨g,2,none⟩ x2).setCell ⟨g,3,none⟩ x3).setCell ⟨g,4,none⟩ x4).setCell ⟨g,5,none⟩ x5=wN∧wN.heap[g]?=some (.cells #[x0,x1,x2,x3,x4,x5] T (0,0))∧Fr (fun k=>k≠g) wq wN:=
 ⟨_,rfl,by simp[World.setCell,Array.getElem?_modify,hx],(((((Fr.set (by simp) _ _).trans (Fr.set (by simp) _ _)).trans (Fr.set (by simp) _ _)).trans (Fr.set (by simp) _ _)).trans (Fr.set (by simp) _ _)).trans (Fr.set (by simp) _ _)⟩
theorem Mt{B:Nat->Prop}{gs gk go gt p n0:Nat}{t fl:Int}{l:List V}{a:Option Addr}{c:Nat}{z:Value}{y0 y1 y2 y3 y4 y5 cs fs ds ss:Value}{w:World}(hs:w.heap[gs]?=some (slO (.slice a l.length c)))(hk:w.heap[gk]?=some (ptO p))(ho:w.heap[go]?=some (slO z))(ht:w.heap[gt]?=some (ouO y0 y1 y2 y3 y4 y5))(hm:Lm p w cs fs ds ss fl)(hl:Al B w l (.slice a l.length c))(hw:∀x∈l,wt x<=1000000)(hn:l.length<=800000)(d1:gs≠go)(d2:gk≠go)(d3:gt≠go)(d4:p≠go)(d5:gs≠gt)(d6:gk≠gt)(d7:p≠gt)(n1:n0<=go)(n2:n0<=gt) :
  CallsD Tryz.prog 28 #[pt gs 0,pt gk 0,pt go 0,pt gt 0] (.panicking (Ca t)) w fun e u' w'=>
   e=.returned (.tuple #[])∧u'=.panicking [{ v:=.iface 85 (.agg #[iv t]),recovered:=true }] ∧
   ∃a' c',w'.heap[go]?=some (slO (.slice a' l.length c'))∧w'.heap[gt]?=some (ouO (iv 0) (iv 0) (.string ⟨#[]⟩) sZ (iv t) (iv fl))∧Al (From w.heap.size) w' l (.slice a' l.length c')∧Wf (From w.heap.size) 1000002 w' (.slice a' l.length c')∧Below n0 w w':=by
 unfold Ca;refine callsD_of_wpS Tryz.func28 rfl fun c₀ cs hu=>?_
 apply wpS_seq;apply wpS_region;simp[wpOpsS,go_sem,recoverD,hu,Tryz.ntmps28,Exit.thenS];refine wpS_of_wp ?_;have lgs:gs<w.heap.size:=(Array.getElem?_eq_some_iff.1 hs).1;have lgk:gk<w.heap.size:=(Array.getElem?_eq_some_iff.1 hk).1;have lgo:go<w.heap.size:=(Array.getElem?_eq_some_iff.1 ho).1;have lgt:gt<w.heap.size:=(Array.getElem?_eq_some_iff.1 ht).1;have lp:=hm.lt;have hSk:∀wx:World,(∀k,k=gs∨k=gk∨k=p->wx.heap[k]?=w.heap[k]?)->wx.cell? ⟨gs,0,none⟩=some (.slice a l.length c)∧wx.cell? ⟨gk,0,none⟩=some (pt p 0)∧wx.cell? ⟨p,4,none⟩=some (iv fl):=fun wx h=>by
  obtain⟨-,-,-,-,m4,-⟩:=Ak ((h p (by simp)).trans hm);exact⟨Ap ((h gs (by simp)).trans hs),Ap ((h gk (by simp)).trans hk),m4⟩
 have hbl:∀wx:World,Below w.heap.size w wx->∀k,k=gs∨k=gk∨k=p->wx.heap[k]?=w.heap[k]?:=fun wx hb k hk=>hb.block k (by rcases hk with rfl | rfl | rfl <;> assumption)
 have hCp:=G3 (hl.below (Af w 1)) hw hn;have hbuild:∀(wx:World),(Instr.build 35 #[(1,iv t),(2,iv fl)]).run Tryz.prog wx=.ok (.agg #[iv 0,iv 0,.string ⟨#[]⟩,sZ,iv t,iv fl]) wx:=fun _=>by kernel_rfl
 go_wp2_with fail
 refine wpE_begin (S:=fun w'=>w'.cell? ⟨gs,0,none⟩=some (.slice a l.length c)∧w'.cell? ⟨gk,0,none⟩=some (pt p 0)∧w'.cell? ⟨p,4,none⟩=some (iv fl)) (N:=fun j=>decide (j<11)) (by kernel_rfl) ?_;have hS0:w.drew.cell? ⟨gs,0,none⟩=some (.slice a l.length c)∧w.drew.cell? ⟨gk,0,none⟩=some (pt p 0)∧w.drew.cell? ⟨p,4,none⟩=some (iv fl):=hSk _ (hbl _ (Af w 1));refine Ab (some 8) [1,3,8,9,10] 0 (.slice a l.length c) rfl rfl (by kernel_rfl) (fun _ _ _ h=>h) rfl (by intro w hS;(try dsimp only at hS);go_split_ands;go_simp) hS0 ?_
 try simp only[aP]
 refine Ab (some 10) [3,8,9,10] 2 (.iface 85 (.agg #[iv t])) rfl rfl (by kernel_rfl) (fun _ _ _ h=>h) rfl (by intro w hS;(try dsimp only at hS);go_split_ands;go_simp) hS0 ?_
 try simp only[aP]
 refine Ab (some 12) [5,6,7,8,9,10] 4 (pt p 0) rfl rfl (by kernel_rfl) (fun _ _ _ h=>h) rfl (by intro w hS;(try dsimp only at hS);go_split_ands;go_simp) hS0 ?_
 try simp only[aP]
 refine Ab (some 13) [6,7,8,9,10] 5 (pt p 0) rfl rfl (by kernel_rfl) (fun _ _ _ h=>h) rfl (by intro w hS;(try dsimp only at hS);go_split_ands;go_simp) hS0 ?_
 try simp only[aP]
 refine Ab (some 14) [7,8,9,10] 6 (pt p 4) rfl rfl (by kernel_rfl) (fun _ _ _ h=>h) rfl (by intro w hS;(try dsimp only at hS);go_split_ands;go_simp) hS0 ?_
 try simp only[aP]
 refine Ab (some 15) [8,9,10] 7 (iv fl) rfl rfl (by kernel_rfl) (fun _ _ _ h=>h) rfl (by intro w hS;(try dsimp only at hS);go_split_ands;go_simp) hS0 ?_
 try simp only[aP]
 refine Ac (i:=1) (by kernel_rfl) rfl rfl (fun K hK=>?_);go_simp;refine hCp.mono ?_;rintro r w2 ⟨⟨a2,c2,rfl,hG2⟩,hb2⟩;replace hb2:Below w.heap.size w w2:=Ad hb2;replace hG2:GvW (From w.heap.size) 1000001 w2 (.slice a2 l.length c2) l:=hG2;clear hCp;refine hK _ _ (fun _=>hSk _ (hbl _ hb2)) ?_;clear hK K
 try simp only[aP]
 refine Ac (i:=3) (by kernel_rfl) rfl rfl (fun K hK=>?_);go_simp;refine (Oo t w2).mono ?_;rintro r w3 ⟨rfl,hb3⟩;have hb23:Below w.heap.size w w3:=hb2.trans (hb3.mono hb2.size);have hx3:Al (From w.heap.size) w3 l (.slice a2 l.length c2):=hG2.gv.vs.below hb3;have hf3:Wf (From w.heap.size) 1000002 w3 (.slice a2 l.length c2):=(hG2.wf (by omega)).below hb3;clear hG2 hb2 hb3;refine hK _ _ (fun _=>hSk _ (hbl _ hb23)) ?_;clear hK K
 try simp only[aP]
 refine Ab (some 16) [10] 8 (.agg #[iv 0,iv 0,.string ⟨#[]⟩,sZ,iv t,iv fl]) rfl rfl (by kernel_rfl) (fun _ _ _ h=>h) rfl (by intro w hS;(try dsimp only at hS);go_split_ands;go_simp) (hSk _ (hbl _ hb23)) ?_
 try simp only[aP]
 have ho3:w3.heap[go]?=some (slO z):=(hb23.block _ lgo).trans ho;have ht3:w3.heap[gt]?=some (ouO y0 y1 y2 y3 y4 y5):=(hb23.block _ lgt).trans ht;have q0:=Ap ho3;have q1:=free_of_one ho3;have lgo3:go<w3.heap.size:=(Array.getElem?_eq_some_iff.1 ho3).1;have hF4:Fr (fun k=>k≠go) w3 (w3.setCell ⟨go,0,none⟩ (.slice a2 l.length c2)):=Fr.set (by simp) _ _;obtain⟨w4,hW4⟩:∃w4,w3.setCell ⟨go,0,none⟩ (.slice a2 l.length c2)=w4:=⟨_,rfl⟩;have ho4:w4.heap[go]?=some (slO (.slice a2 l.length c2)):=by rw[<-hW4];simp[World.setCell,Array.getElem?_modify,ho3]
 rw[hW4] at hF4;have ht4:w4.heap[gt]?=some (ouO y0 y1 y2 y3 y4 y5):=(hF4.block _ d3 (Nat.lt_of_lt_of_le lgt hb23.size)).trans ht3;have hk4:∀k,k=gs∨k=gk∨k=p->w4.heap[k]?=w.heap[k]?:=fun k hk=>(hF4.block k (by rcases hk with rfl | rfl | rfl <;> assumption) (by have:=hb23.size;rcases hk with rfl | rfl | rfl <;> omega)).trans (hbl _ hb23 k hk)
 refine Ac (i:=9) (by kernel_rfl) rfl rfl (fun K hK=>?_);go_simp;refine hK _ _ (fun _=>hSk _ hk4) ?_;clear hK K
 try simp only[aP]
 obtain⟨e0,e1,e2,e3,e4,e5,lgt4⟩:=A0 ht4;obtain⟨f0,f1,f2,f3,f4,f5⟩:=fz6 ht4;obtain⟨w5,hW5,hx5,hF5⟩:=T7 ht4 (iv 0) (iv 0) (.string ⟨#[]⟩) sZ (iv t) (iv fl);have hk5:∀k,k=gs∨k=gk∨k=p->w5.heap[k]?=w.heap[k]?:=fun k hk=>(hF5.block k (by rcases hk with rfl | rfl | rfl <;> assumption) (by have:=hb23.size;have:=hF4.size;rcases hk with rfl | rfl | rfl <;> omega)).trans (hk4 k hk)
 refine Ac (i:=10) (by kernel_rfl) rfl rfl (fun K hK=>?_);go_simp;refine hK _ _ (fun _=>hSk _ hk5) ?_;clear hK K
 try simp only[aP]
 refine Am (by kernel_rfl) ?_;have hF35:Fr (fun k=>k≠go∧k≠gt) w3 w5:=(hF4.mono (fun k hk=>hk.1)).trans (hF5.mono (fun k hk=>hk.2));have hS35:Since (From w.heap.size) w3 w5:=⟨hF35.size,fun k hk hh=>hF35.block k (by have hk':w.heap.size<=k:=hk;exact⟨by omega,by omega⟩) hh⟩;have hfin:∃a' c',w5.heap[go]?=some (slO (.slice a' l.length c'))∧w5.heap[gt]?=some (ouO (iv 0) (iv 0) (.string ⟨#[]⟩) sZ (iv t) (iv fl))∧Al (From w.heap.size) w5 l (.slice a' l.length c')∧Wf (From w.heap.size) 1000002 w5 (.slice a' l.length c')∧Below n0 w w5:=by
  refine⟨a2,c2,(hF5.block _ (fun e=>d3 e.symm) (Array.getElem?_eq_some_iff.1 ho4).1).trans ho4,hx5,hx3.since hS35,hf3.since hS35,?_⟩;exact⟨hF35.os.trans hb23.os,hF35.tape.trans hb23.tape,hF35.output.trans hb23.output,Nat.le_trans hb23.size hF35.size,fun k hk=>(hF35.block k ⟨by omega,by omega⟩ (by have:=hb23.size;omega)).trans (hb23.block k (by omega))⟩
 clear hx3 hf3 hS35 hF35 hF4 hF5 hb23 hx5 ho4 ht4 ho3 ht3 hk4 hk5 hSk hbl hW4 hW5 e0 e1 e2 e3 e4 e5 f0 f1 f2 f3 f4 f5 q0 q1 hs hk ho ht hm hl hw hS0;cases c₀
 simp_all +zetaDelta [bodyPostS,results,Tryz.results28]
end
end Go.Proofs.YtnijcolomoobnaaGreatDoor
