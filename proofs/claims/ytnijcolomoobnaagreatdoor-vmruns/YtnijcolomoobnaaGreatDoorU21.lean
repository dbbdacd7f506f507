/- Texts of ours, joined. -/
import Derived.Test.YtnijcolomoobnaaGreatDoorU14
import Derived.Test.YtnijcolomoobnaaGreatDoorU15
set_option linter.unusedVariables false
set_option linter.unusedSimpArgs false
set_option maxRecDepth 100000
set_option maxHeartbeats 16000000
namespace Go.Proofs.YtnijcolomoobnaaGreatDoor
section
open Go.RowKit
attribute [local go_sem ↓] Go.wp_at_zero Go.wp_at_succ
theorem Ss(B:Nat->Prop):∀(T:Ty),T.dp<=4->Kn B (tyT T) (shpB T)
 | T,hT=>by
  have hkey:∀k:Bool,Kn B (keyT k) (shpB (Cd k)):=by
   intro k v sl w hv;rw[<-keyTy_T];have hd:(Cd k).dp<=4:=by rw[Lh];omega
   by_cases hn:v.k=kd (Cd k)
   ·exact Lv hd hv hn (fun t e=>by cases k <;> cases e) (fun k' t e=>by cases k <;> cases e)
   ·have hf:shpB (Cd k) v=false:=Bb.2 (fun h=>hn h.kind);rw[hf];exact Sq hd hv hn
  intro v sl w hv;by_cases hn:v.k=kd T
  ·by_cases hm:∃k t,T=.map k t
   ·obtain⟨k,t,e⟩:=hm;subst e;exact Ve hT hv hn (hkey k) (Ss B t (by simp[Ty.dp] at hT;omega))
   ·refine Lv hT hv hn (fun t e=>?_) (fun k t e=>hm ⟨k,t,e⟩);subst e;exact Ss B t (by simp[Ty.dp] at hT;omega)
  ·have hf:shpB T v=false:=Bb.2 (fun h=>hn h.kind);rw[hf];exact Sq hT hv hn
termination_by T=>T.dp
decreasing_by all_goals (subst e;simp[Ty.dp])
theorem Qa{B:Nat->Prop}{y:List UInt8}(hy:y.length<=9223372036854775807){v:V}{sl:Value}{w:World}(hv:IsW B w v sl)(hw:wt v<=4611686018427387904) :
  Calls Tryz.prog 103 #[.agg #[iv v.k,iv v.n,bz v.t,sl],.string ⟨y.toArray⟩] w fun r w'=>r=.returned (.bool (fitS y v))∧Below w.heap.size w w':=by
 obtain⟨ao,cap,rfl,hc1,hc2⟩:=hv.vs.slice;obtain⟨w0,hW,hb0,hsz,d0,d1,d2,d3⟩:=Aw w v (.slice ao v.l.length cap);have hT:=fun w=>Hr y hy w
 unfold Es at hT;rcases h:tyOf y with _ | T
 ·have hfin:Hid (fitS y v=false):=by show _=_;unfold fitS shpS;rw[h];rfl
  rw[h] at hT;clear hv h;go_enter Tryz.func103,Tryz.ntmps103;go_wp2_with fail;refine (hT _).mono ?_;rintro e w' ⟨rfl,rfl⟩;go_wp2;go_ret;exact⟨ret_bool hfin.out.symm,hb0⟩
 ·obtain⟨h1,h2⟩:=(B4 _ _).1 h;have hS:∀w2,Below w0.heap.size w0 w2->Calls Tryz.prog 136 #[.agg #[iv v.k,iv v.n,bz v.t,.slice ao v.l.length cap],.string ⟨y.toArray⟩] w2 fun r w'=>r=.returned (.bool (shpB T v))∧Below w2.heap.size w2 w':=fun w2 hb2=>by
   rw[<-h1];exact Ss B T h2 v _ w2 ((hv.below hb0).below hb2)
  have hWt:=Ex _ v _ B w0 (Nat.lt_succ_self _) hw (hv.below hb0);have hfin:Hid (fitS y v=(shpB T v && decide (wt v<=16384))):=by show _=_;unfold fitS shpS;rw[h]
  rw[h] at hT;have hgb:w.heap.size<w0.heap.size:=by omega
  clear hv h h1 h2;generalize shpB T v=s at *;generalize wt v=n at *;by_cases hn:n<=16384
  ·have hnI:(n:Int)<=16384:=by omega
   go_enter Tryz.func103,Tryz.ntmps103;go_wp2_with fail;refine (hT _).mono ?_;rintro e w' ⟨rfl,rfl⟩;go_wp2_with fail;refine hWt.mono ?_;rintro e w5 ⟨rfl,hb5⟩;obtain⟨f3,-⟩:=Ag hb5;have e0:w5.cell? ⟨w.heap.size,0,none⟩=some (iv v.k):=by rw[f3 _ _ hgb];exact d0
   have e1:w5.cell? ⟨w.heap.size,1,none⟩=some (iv v.n):=by rw[f3 _ _ hgb];exact d1
   have e2:w5.cell? ⟨w.heap.size,2,none⟩=some (bz v.t):=by rw[f3 _ _ hgb];exact d2
   have e3:w5.cell? ⟨w.heap.size,3,none⟩=some (.slice ao v.l.length cap):=by rw[f3 _ _ hgb];exact d3
   clear f3 d0 d1 d2 d3 hW hWt hT;go_wp2_with fail;refine (hS _ hb5).mono ?_;rintro e w6 ⟨rfl,hb6⟩;clear hS;go_wp2;go_ret;exact⟨ret_bool (by rw[hfin.out,decide_eq_true hn,Bool.and_true]),hb0.trans ((hb5.trans (hb6.mono hb5.size)).mono hb0.size)⟩
  ·have hnI:¬(n:Int)<=16384:=by omega
   clear hS;go_enter Tryz.func103,Tryz.ntmps103;go_wp2_with fail;refine (hT _).mono ?_;rintro e w' ⟨rfl,rfl⟩;go_wp2_with fail;refine hWt.mono ?_;rintro e w5 ⟨rfl,hb5⟩;clear hWt hT;go_wp2;go_ret;exact⟨ret_bool (by rw[hfin.out,decide_eq_false hn,Bool.and_false]),hb0.trans (hb5.mono hb0.size)⟩
abbrev tyA:Array Value:=#[.string ⟨#[105,110,116]⟩,.string ⟨#[98,111,111,108]⟩,.string ⟨#[116,101,120,116]⟩,.string ⟨#[91,105,110,116,93]⟩,.string ⟨#[123,105,110,116,58,105,110,116,125]⟩]
theorem Qb(q:Nat)(hq:q<5):∃t,tys[q]?=some t∧t.length<=9∧∀w,(Instr.index 120 (.agg tyA) (iv q)).run Tryz.prog w=.ok (.string ⟨t.toArray⟩) w:=by
 have h:q=0∨q=1∨q=2∨q=3∨q=4:=by omega
 rcases h with rfl | rfl | rfl | rfl | rfl
 ·exact⟨_,rfl,by decide,fun w=>by kernel_rfl⟩
 ·exact⟨_,rfl,by decide,fun w=>by kernel_rfl⟩
 ·exact⟨_,rfl,by decide,fun w=>by kernel_rfl⟩
 ·exact⟨_,rfl,by decide,fun w=>by kernel_rfl⟩
 ·exact⟨_,rfl,by decide,fun w=>by kernel_rfl⟩
theorem Ye(w:World):∃wz w4,w.alloc (.cells #[.string ⟨#[]⟩,.string ⟨#[]⟩,.string ⟨#[]⟩,.string ⟨#[]⟩,.string ⟨#[]⟩] 120)=wz∧((((wz.setCell ⟨w.heap.size,0,none⟩ (.string ⟨#[105,110,116]⟩)).setCell ⟨w.heap.size,1,none⟩ (.string ⟨#[98,111,111,108]⟩)).setCell ⟨w.heap.size,2,none⟩ (.string ⟨#[116,101,120,116]⟩)).setCell ⟨w.heap.size,3,none⟩ (.string ⟨#[91,105,110,116,93]⟩)).setCell ⟨w.heap.size,4,none⟩ (.string ⟨#[123,105,110,116,58,105,110,116,125]⟩)=w4∧Below w.heap.size w wz∧Below w.heap.size w w4∧w4.heap[w.heap.size]?=some (.cells tyA 120 (0,0))∧wz.heap[w.heap.size]?=some (.cells #[.string ⟨#[]⟩,.string ⟨#[]⟩,.string ⟨#[]⟩,.string ⟨#[]⟩,.string ⟨#[]⟩] 120 (0,0)):=by
 have hb:Below w.heap.size w (w.alloc (.cells #[.string ⟨#[]⟩,.string ⟨#[]⟩,.string ⟨#[]⟩,.string ⟨#[]⟩,.string ⟨#[]⟩] 120)):=(Below.refl _ _).alloc (Nat.le_refl _) _;have hz:(w.alloc (.cells #[.string ⟨#[]⟩,.string ⟨#[]⟩,.string ⟨#[]⟩,.string ⟨#[]⟩,.string ⟨#[]⟩] 120)).heap[w.heap.size]?=some (.cells #[.string ⟨#[]⟩,.string ⟨#[]⟩,.string ⟨#[]⟩,.string ⟨#[]⟩,.string ⟨#[]⟩] 120 (0,0)):=Ai _ _;refine⟨_,_,rfl,rfl,hb,((((hb.setCell (p:=⟨w.heap.size,0,none⟩) (Nat.le_refl _) _).setCell (p:=⟨w.heap.size,1,none⟩) (Nat.le_refl _) _).setCell (p:=⟨w.heap.size,2,none⟩) (Nat.le_refl _) _).setCell (p:=⟨w.heap.size,3,none⟩) (Nat.le_refl _) _).setCell (p:=⟨w.heap.size,4,none⟩) (Nat.le_refl _) _,?_,hz⟩;generalize w.alloc (.cells #[.string ⟨#[]⟩,.string ⟨#[]⟩,.string ⟨#[]⟩,.string ⟨#[]⟩,.string ⟨#[]⟩] 120)=wz at *;simp[World.setCell,Array.getElem?_modify,hz]
theorem Np{B:Nat->Prop}{v:V}{ao:Option Addr}{cap:Nat}{w:World}(hv:IsW B w v (.slice ao v.l.length cap))(hw:wt v<=4611686018427387904) :
  Calls Tryz.prog 68 #[.agg #[iv v.k,iv v.n,bz v.t,.slice ao v.l.length cap]] w fun e w'=>e=.returned (.string ⟨(ctype v).toArray⟩)∧Below w.heap.size w w':=by
 obtain⟨w0,hW,hb0,hsz,d0,d1,d2,d3⟩:=Aw w v (.slice ao v.l.length cap);have hgb:w.heap.size<w0.heap.size:=by omega
 clear hsz;by_cases hl:v.l.length=0
 rotate_left
 ·have hlI:0<(v.l.length:Int):=by omega
  have hfin:ctype v=[]:=by unfold ctype;rw[if_neg (by intro e;rw[e] at hl;exact hl rfl)]
  rw[hfin];clear hv hl hfin hw;go_enter Tryz.func68,Tryz.ntmps68;go_wp2;go_ret;exact⟨rfl,hb0⟩
 have hlI:¬0<(v.l.length:Int):=by omega
 have hfin:Hid (ctype v=(tys.find? fun t=>fitS t v).getD []):=by show _=_;unfold ctype;rw[if_pos (List.length_eq_zero_iff.1 hl)]
 obtain⟨wz,w1,hWz,hW1,hbz,hb1,hx1,hz⟩:=Ye w0;obtain⟨z0,z1,z2,z3,z4,y0,y1,y2,y3,y4,hlz⟩:=Ak hz;obtain⟨c0,c1,c2,c3,c4,-,-,-,-,-,hlc⟩:=Ak hx1;have hB1:Below w.heap.size w w1:=hb0.trans (hb1.mono (by omega));obtain⟨f1,-⟩:=Ag hb1;rw[<-f1 w.heap.size _ hgb] at d0 d1 d2;have d3':=d3;rw[<-f1 w.heap.size _ hgb] at d3';have hcall:∀(t:List UInt8) (wr:World),t.length<=9->Below w.heap.size w wr->Calls Tryz.prog 103 #[.agg #[iv v.k,iv v.n,bz v.t,.slice ao v.l.length cap],.string ⟨t.toArray⟩] wr fun r w'=>r=.returned (.bool (fitS t v))∧Below wr.heap.size wr w':=fun t wr ht hb=>Qa (by omega) (hv.below hb) hw
 have hcell:∀wr,Below w1.heap.size w1 wr->wr.cell? ⟨w.heap.size,0,none⟩=some (iv v.k)∧wr.cell? ⟨w.heap.size,1,none⟩=some (iv v.n)∧wr.cell? ⟨w.heap.size,2,none⟩=some (bz v.t)∧wr.cell? ⟨w.heap.size,3,none⟩=some (.slice ao v.l.length cap)∧w.heap.size<wr.heap.size:=fun wr hb=>by
  obtain⟨f2,-⟩:=Ag hb;have hlt:w.heap.size<w1.heap.size:=by omega
  exact⟨(f2 _ _ hlt).trans d0,(f2 _ _ hlt).trans d1,(f2 _ _ hlt).trans d2,(f2 _ _ hlt).trans d3',by have:=hb.size;omega⟩
 clear hv hl hx1 hz f1 d0 d1 d2 d3' hw;go_enter Tryz.func68,Tryz.ntmps68;go_wp2_with fail;clear hW hWz hW1 z0 z1 z2 z3 z4 y0 y1 y2 y3 y4 c0 c1 c2 c3 c4 d3 hlI
 go_loopg [12] 5 (fun gk i wr=>∃q:Nat,q<=5∧gk=5 - q∧i=iv q∧Hid (Below w1.heap.size w1 wr∧ctype v=((tys.drop q).find? fun t=>fitS t v).getD []))
 case atStart=>exact⟨0,by omega,rfl,rfl,Below.refl _ _,hfin.out⟩
 case round=>
  obtain⟨q,hq,rfl,rfl,HI⟩:=hrel;obtain⟨hBr,hct⟩:=HI.out;clear HI hfin;have hBw:Below w.heap.size w wr:=hB1.trans (hBr.mono hB1.size);by_cases hlt:q<5
  ·have hltI:(q:Int)<5:=by omega
   have hq0:(0:Int)<=(q:Int):=by omega
   obtain⟨t,ht,htl,hix⟩:=Qb q hlt;obtain⟨k0,k1,k2,k3,k4⟩:=hcell wr hBr;have hC:=hcall t wr htl hBw;have hdr:tys.drop q=t :: tys.drop (q+1):=by
    obtain⟨h1,h2⟩:=List.getElem?_eq_some_iff.1 ht;rw[<-h2];exact List.drop_eq_getElem_cons h1
   rw[hdr,List.find?_cons] at hct;have Hct:Hid (ctype v=(match fitS t v with | true=>some t | false=>(tys.drop (q+1)).find? fun t=>fitS t v).getD []):=hct;clear hct hdr ht;go_wp2_with fail;refine hC.mono ?_;rintro e w2 ⟨rfl,hb2⟩;have hB2:Below w1.heap.size w1 w2:=hBr.trans (hb2.mono hBr.size);have hBw2:Below w.heap.size w w2:=hBw.trans (hb2.mono hBw.size);clear hC hcell hcall k0 k1 k2 k3 hix;cases hft:fitS t v with
   | true=>
    have hfin:Hid (ctype v=t):=by show _=_;rw[Hct.out,hft];rfl
    clear Hct;go_wp2;go_ret;exact⟨by rw[hfin.out];rfl,hBw2⟩
   | false=>
    have hnew:Hid (Below w1.heap.size w1 w2∧ctype v=((tys.drop (q+1)).find? fun t=>fitS t v).getD []):=⟨hB2,by rw[Hct.out,hft]⟩;clear Hct;go_wp2_with fail;go_roundg (5 - (q+1))
    case measure=>omega
    case rel=>exact⟨q+1,by omega,rfl,by go_num,hnew⟩
  ·have hltI:¬(q:Int)<5:=by omega
   have hfin:Hid (ctype v=[]):=by
    show _=_;rw[hct,List.drop_of_length_le (by show tys.length<=q;have:tys.length=5:=rfl;omega)];rfl
   clear hct hcell hcall;go_wp2;go_ret;exact⟨by rw[hfin.out];rfl,hBw⟩
def tyK(k:Int):List UInt8:=if k == 1 then [105,110,116] else if k == 2 then [98,111,111,108] else if k == 3 then [116,101,120,116] else if k == 4 then [91,105,110,116,93] else if k == 5 then [123,105,110,116,58,105,110,116,125] else []
theorem We(k:Int):(tyK k).length<=9:=by
 unfold tyK
 repeat' split
 all_goals decide
theorem Xw{t:List UInt8}(h:t∈tys):∃T:Ty,t=tyT T∧T.dp<=4∧tyK (kd T)=t:=by
 simp only[tys,List.mem_cons,List.not_mem_nil,or_false] at h;rcases h with rfl | rfl | rfl | rfl | rfl
 ·exact⟨.int,by decide,by decide,by decide⟩
 ·exact⟨.bool,by decide,by decide,by decide⟩
 ·exact⟨.text,by decide,by decide,by decide⟩
 ·exact⟨.list .int,by decide,by decide,by decide⟩
 ·exact⟨.map true .int,by decide,by decide,by decide⟩
theorem T1{t:List UInt8}{v:V}(h:t∈tys)(hf:fitS t v=true):tyK v.k=t:=by
 obtain⟨T,rfl,h2,h3⟩:=Xw h;unfold fitS at hf;rw[Kd h2] at hf;simp only[Bool.and_eq_true] at hf;rw[(Bf.1 hf.1).kind];exact h3
theorem Wg{k:Int}(h:tyK k≠[]):tyK k∈tys:=by
 unfold tyK at *
 repeat' split
 all_goals simp_all [tys]
theorem Wh(v:V):ctype v=if tyK v.k≠[]∧v.l.length=0∧fitS (tyK v.k) v=true then tyK v.k else []:=by
 unfold ctype;by_cases hl:v.l=[]
 ·rw[if_pos hl];rcases h:tys.find? (fun t=>fitS t v) with _ | t
  ·rw[if_neg]
   ·rfl
   ·rintro⟨h1,-,h2⟩;have:=List.find?_eq_none.1 h _ (Wg h1);exact absurd h2 this
  ·have h1:=List.find?_some h;have h1':fitS t v=true:=h1;have h2:=List.mem_of_find?_eq_some h;have h3:=T1 h2 h1';have h4:t≠[]:=by
    intro e;subst e;simp[tys] at h2
   rw[h3,if_pos ⟨h4,by rw[hl];rfl,h1'⟩];rfl
 ·rw[if_neg hl,if_neg];exact fun h=>hl (List.length_eq_zero_iff.1 h.2.1)
theorem I7(k:Int)(w:World):Calls Tryz.prog 143 #[iv k] w fun e w'=>e=.returned (.string ⟨(tyK k).toArray⟩)∧Below w.heap.size w w':=by
 obtain⟨r,hr⟩:∃r,Hid (tyK k=r):=⟨_,rfl⟩;rw[hr.out];have hb:Below w.heap.size w w:=Below.refl _ _;go_enter Tryz.func143,Tryz.ntmps143;go_wp2
 all_goals (try go_ret)
 all_goals (refine⟨?_,hb⟩;rw[<-hr.out];unfold tyK;simp_all)
theorem Qu{B:Nat->Prop}{v:V}{ao:Option Addr}{cap:Nat}{w:World}(hv:IsW B w v (.slice ao v.l.length cap))(hw:wt v<=4611686018427387904) :
  Calls Tryz.prog 120 #[.agg #[iv v.k,iv v.n,bz v.t,.slice ao v.l.length cap]] w fun e w'=>e=.returned (.string ⟨(ctype v).toArray⟩)∧Below w.heap.size w w':=by
 obtain⟨w0,hW,hb0,hsz,d0,d1,d2,d3⟩:=Aw w v (.slice ao v.l.length cap);have hgb:w.heap.size<w0.heap.size:=by omega
 have hlen:v.l.length<=9223372036854775807:=by obtain⟨_,_,e,h1,h2⟩:=hv.vs.slice;cases e;omega
 have hK:=I7 v.k w0;have htl:=We v.k;have hct:=Wh v;have hF:∀w1,Below w0.heap.size w0 w1->Calls Tryz.prog 144 #[.agg #[iv v.k,iv v.n,bz v.t,.slice ao v.l.length cap],.string ⟨(tyK v.k).toArray⟩] w1 fun r w'=>r=.returned (.bool (fitS (tyK v.k) v))∧Below w1.heap.size w1 w':=fun w1 hb=>So (by omega) ((hv.below hb0).below hb) hw
 generalize hT:tyK v.k=T at *;generalize hct2:ctype v=C at *;clear hv hsz;go_enter Tryz.func120,Tryz.ntmps120;go_wp2_with fail;refine hK.mono ?_;rintro e w1 ⟨rfl,hb1⟩;have hB1:Below w.heap.size w w1:=hb0.trans (hb1.mono hb0.size);have e0:=((Ag hb1).1 _ 0 hgb).trans d0;have e1:=((Ag hb1).1 _ 1 hgb).trans d1;have e2:=((Ag hb1).1 _ 2 hgb).trans d2;have e3:=((Ag hb1).1 _ 3 hgb).trans d3;have hg1:w.heap.size<w1.heap.size:=by have:=hb1.size;omega
 have hF1:=hF w1 hb1;clear hK hF hW d0 d1 d2 d3 hT hct2;rcases T with _ | ⟨c,r⟩
 ·rw[if_neg (by simp)] at hct;subst hct;clear hF1;go_wp2;go_ret;exact⟨rfl,hB1⟩
 generalize v.l.length=L at *;rcases L with _ | k
 rotate_left
 ·rw[if_neg (by rintro⟨-,h,-⟩;cases h)] at hct;subst hct;clear hF1;go_wp2;go_ret;exact⟨rfl,hB1⟩
 cases hf:fitS (c :: r) v with
 | false=>
  rw[if_neg (by rw[hf];rintro⟨-,-,h⟩;cases h)] at hct;subst hct;rw[hf] at hF1;clear hf;go_wp2_with fail;refine hF1.mono ?_;rintro e w2 ⟨rfl,hb2⟩;clear hF1 e0 e1 e2 e3;go_wp2;go_ret;exact⟨rfl,hB1.trans (hb2.mono hB1.size)⟩
 | true=>
  rw[if_pos ⟨by simp,rfl,hf⟩] at hct;subst hct;rw[hf] at hF1;clear hf;go_wp2_with fail;refine hF1.mono ?_;rintro e w2 ⟨rfl,hb2⟩;clear hF1 e0 e1 e2 e3;go_wp2;go_ret;exact⟨rfl,hB1.trans (hb2.mono hB1.size)⟩
end
end Go.Proofs.YtnijcolomoobnaaGreatDoor
