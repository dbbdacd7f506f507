/- Texts of ours, joined. -/
import Derived.Test.YtnijcolomoobnaaGreatDoorU10
set_option linter.unusedVariables false
set_option linter.unusedSimpArgs false
set_option maxRecDepth 100000
set_option maxHeartbeats 16000000
namespace Go.Proofs.YtnijcolomoobnaaGreatDoor
section
open Go.RowKit
attribute [local go_sem ↓] Go.wp_at_zero Go.wp_at_succ
theorem Sr{P:Program}{ops:Array Oper}{Q:Exit->Act->World->Prop}{md:Region.Mode}{S:World->Prop}{N:Nat->Bool}{i:Nat}{oi:Oper}{f:Nat}{listed:Array Bool}{a:Act}{w:World}(hi:ops[i]?=some oi)(hs:Region.noSelect ops=true)(hf:Region.free md ops listed i=true)(hr:(Region.ready md ops listed).contains i=true)(hl:Dp md ops N i=true)
  (hQ:∀c a w,Q (.panic c) (a.put oi.dst undef) w->Q (.panic c) a w) (hw:Region.wanted oi (yielded ops a.tmps)=false) (hS:S w) (h:wpE P md ops Q S N f (listed.setIfInBounds i true) (a.put oi.dst undef) w):wpE P md ops Q S N (f+1) listed a w:=
 Gk (T:=S) hi (Region.noSelect_spec hs) hQ (fun _ h _=>h) f listed a w (fun j oj h1 h2 h3 h4=>⟨Region.free_spec hi hf j oj h1 h2 h3 h4,fun w' hw'=>hw' (Fh hl h1 h2 h4)⟩) (by simpa using hr) (Or.inr ⟨hw,rfl⟩) hS h
theorem P8{P:Program}{ops:Array Oper}{Q:Exit->Act->World->Prop}{md:Region.Mode}{S:World->Prop}{N:Nat->Bool}{i:Nat}{oi:Oper}{f:Nat}{listed:Array Bool}{a:Act}{w:World}(d:Option Tmp)(hi:ops[i]?=some oi)(hd:oi.dst=d)(hs:Region.noSelect ops=true)(hf:Region.free md ops listed i=true)(hr:(Region.ready md ops listed).contains i=true)(hl:Dp md ops N i=true)
  (hQ:∀c a w,Q (.panic c) (a.put oi.dst undef) w->Q (.panic c) a w) (hw:Region.wanted oi (yielded ops a.tmps)=false) (hS:S w) (h:wpE P md ops Q S N f (listed.setIfInBounds i true) (a.put d undef) w):wpE P md ops Q S N (f+1) listed a w:=Sr hi hs hf hr hl hQ hw hS (by rw[hd];exact h)
theorem P9{P:Program}{ops:Array Oper}{Q:Exit->Act->World->Prop}{md:Region.Mode}{S:World->Prop}{N:Nat->Bool}{i:Nat}{oi:Oper}{v:Value}{f:Nat}{listed:Array Bool}{a:Act}{w:World}(d:Option Tmp)(hi:ops[i]?=some oi)(hd:oi.dst=d)(hs:Region.noSelect ops=true)(hf:Region.free md ops listed i=true)(hr:(Region.ready md ops listed).contains i=true)(hl:Dp md ops N i=true)
  (hQ:∀c a w,Q (.panic c) (a.put oi.dst v) w->Q (.panic c) a w) (hw:Region.wanted oi (yielded ops a.tmps)=true) (hy:∀w,S w->(execOp a.eval oi).run P w=.ok (.value v) w) (hS:S w) (h:wpE P md ops Q S N f (listed.setIfInBounds i true) (a.put d v) w):wpE P md ops Q S N (f+1) listed a w:=Rz hi hs hf hr hl hQ hw hy hS (by rw[hd];exact h)
theorem Ar{P:Program}{ops:Array Oper}{Q:Exit->Act->World->Prop}{md:Region.Mode}{S:World->Prop}{N:Nat->Bool}{oi:Oper}{f:Nat}{listed:Array Bool}{a:Act}{w:World}(d:Option Tmp)(i:Nat)(hi:ops[i]?=some oi)(hd:oi.dst=d)(hb:(Region.noSelect ops && (Region.free md ops listed i && ((Region.ready md ops listed).contains i && (Dp md ops N i && !Region.wanted oi (yielded ops a.tmps)))))=true)(hQ:∀c a w,Q (.panic c) (a.put oi.dst undef) w->Q (.panic c) a w)(hS:S w)(h:wpE P md ops Q S N f (listed.setIfInBounds i true) (a.put d undef) w):wpE P md ops Q S N (f+1) listed a w:=by
 obtain⟨hs,hb⟩:=Bool.and_eq_true_iff.1 hb;obtain⟨hf,hb⟩:=Bool.and_eq_true_iff.1 hb;obtain⟨hr,hb⟩:=Bool.and_eq_true_iff.1 hb;obtain⟨hl,hw⟩:=Bool.and_eq_true_iff.1 hb;exact P8 d hi hd hs hf hr hl hQ (by simpa using hw) hS h
theorem Ao{P:Program}{ops:Array Oper}{Q:Exit->Act->World->Prop}{md:Region.Mode}{S:World->Prop}{N:Nat->Bool}{oi:Oper}{f:Nat}{listed:Array Bool}{a:Act}{w:World}(d:Option Tmp)(i:Nat)(v:Value)(hi:ops[i]?=some oi)(hd:oi.dst=d)(hb:(Region.noSelect ops && (Region.free md ops listed i && ((Region.ready md ops listed).contains i && (Dp md ops N i && Region.wanted oi (yielded ops a.tmps)))))=true)(hQ:∀c a w,Q (.panic c) (a.put oi.dst v) w->Q (.panic c) a w)(hy:∀w,S w->(execOp a.eval oi).run P w=.ok (.value v) w)(hS:S w)(h:wpE P md ops Q S N f (listed.setIfInBounds i true) (a.put d v) w):wpE P md ops Q S N (f+1) listed a w:=by
 obtain⟨hs,hb⟩:=Bool.and_eq_true_iff.1 hb;obtain⟨hf,hb⟩:=Bool.and_eq_true_iff.1 hb;obtain⟨hr,hb⟩:=Bool.and_eq_true_iff.1 hb;obtain⟨hl,hw⟩:=Bool.and_eq_true_iff.1 hb;exact P9 d hi hd hs hf hr hl hQ hw hy hS h
structure MapI(pk pv:V->Bool)(l:List V)(q:Nat):Prop where
 each:∀j x,j<q->l[j]?=some x->(if j % 2=0 then pk x else pv x)=true
 rise:∀j x y,j+2<q->j % 2=0->l[j]?=some x->l[j+2]?=some y->cmpV x y<0
theorem MapI.step{pk pv:V->Bool}{l:List V}{q:Nat}(h:MapI pk pv l q){x:V}(hx:l[q]?=some x)(h1:(if q % 2=0 then pk x else pv x)=true)(h2:∀m z,m+2=q->m % 2=0->l[m]?=some z->cmpV z x<0):MapI pk pv l (q+1):=by
 refine⟨fun j z hj hz=>?_,fun j a b hj h0 ha hb=>?_⟩
 ·by_cases e:j=q
  ·subst e;rw[hx] at hz;cases hz;exact h1
  ·exact h.each j z (by omega) hz
 ·by_cases e:j+2=q
  ·rw[e,hx] at hb;cases hb;exact h2 j a e h0 ha
  ·exact h.rise j a b (by omega) h0 ha hb
theorem MapI.all{pk pv:V->Bool}{l:List V}{q:Nat}(h:MapI pk pv l q)(h1:l.length % 2=0)(h2:l.length<=128)(hq:l.length<=q):Fo pk pv l:=by
 refine⟨h1,h2,fun i x hx=>?_,fun i x hx=>?_,fun i a b ha hb=>?_⟩
 ·have:=(List.getElem?_eq_some_iff.1 hx).1;have:=h.each (2*i) x (by omega) hx
  rwa [if_pos (by omega)] at this
 ·have:=(List.getElem?_eq_some_iff.1 hx).1;have:=h.each (2*i+1) x (by omega) hx
  rwa [if_neg (by omega)] at this
 ·have:=(List.getElem?_eq_some_iff.1 hb).1;exact h.rise (2*i) a b (by omega) (by omega) ha hb
theorem Ve{B:Nat->Prop}{k:Bool}{t:Ty}(hT:(Ty.map k t).dp<=4){v:V}{sl:Value}{w:World}(hv:IsW B w v sl)(hk:v.k=kd (.map k t))(hRk:Kn B (keyT k) (shpB (Cd k)))(hRv:Kn B (tyT t) (shpB t)) :
  Calls Tryz.prog 136 #[.agg #[iv v.k,iv v.n,bz v.t,sl],.string ⟨(tyT (.map k t)).toArray⟩] w fun r w'=>r=.returned (.bool (shpB (.map k t) v))∧Below w.heap.size w w':=by
 have hlen:=Bh (.map k t);obtain⟨ao,cap,rfl,hc1,hc2⟩:=hv.vs.slice;obtain⟨w0,hW,hb0,hsz,d0,d1,d2,d3⟩:=Aw w v (.slice ao v.l.length cap);have hkd:kdOf (tyT (.map k t))=kd (.map k t):=by unfold kdOf;rw[Cs hT]
 have hZ:=fun w=>Gm (tyT (.map k t)) (by omega) w
 rw[hkd] at hZ;have h0':(v.k == 0)=false:=by rw[hk];have:=Sp (.map k t);simp[this]
 have hk':(v.k != kd (.map k t))=false:=by simp[hk]
 have hgb:w.heap.size<w0.heap.size:=by omega
 have hfd:=fun a b c d w=>Ko a b c d w
 have HV:Hid (IsW B w v (.slice ao v.l.length cap)):=hv;have HRk:Hid (Kn B (keyT k) (shpB (Cd k))):=hRk;have HRv:Hid (Kn B (tyT t) (shpB t)):=hRv;have HK:Hid (v.k=kd (.map k t)):=hk;clear hv hRk hRv hkd hlen hk;go_enter Tryz.func136,Tryz.ntmps136;go_wp2_with fail;go_region_held3 (fun w'=>w'.cell? ⟨w.heap.size,0,none⟩=some (iv v.k)∧w'.cell? ⟨w.heap.size,1,none⟩=some (iv v.n)∧w'.cell? ⟨w.heap.size,2,none⟩=some (bz v.t)∧w'.cell? ⟨w.heap.size,3,none⟩=some (.slice ao v.l.length cap)) (go_keep)
  ((go_at_call 155;refine (hZ _).mono ?_;rintro e w5 ⟨rfl,hb5⟩;replace hb5:=Ad hb5;obtain⟨f3,-⟩:=Ag hb5))
 have hB5:Below w.heap.size w w5:=hb0.trans (hb5.mono hb0.size);have hgb5:w.heap.size<w5.heap.size:=by have:=hb5.size;omega
 have e0:w5.cell? ⟨w.heap.size,0,none⟩=some (iv v.k):=by rw[f3 _ _ hgb];exact d0
 have e1:w5.cell? ⟨w.heap.size,1,none⟩=some (iv v.n):=by rw[f3 _ _ hgb];exact d1
 have e2:w5.cell? ⟨w.heap.size,2,none⟩=some (bz v.t):=by rw[f3 _ _ hgb];exact d2
 have e3:w5.cell? ⟨w.heap.size,3,none⟩=some (.slice ao v.l.length cap):=by rw[f3 _ _ hgb];exact d3
 clear f3 d0 d1 d2 d3 hW hZ hk' h0' hb5 hb0 hsz hgb;have hk:v.k=kd (.map k t):=HK.out;clear HK;replace hk:v.k=5:=hk;have hRk:=HRk.out;have hRv:=HRv.out;clear HRk HRv;by_cases hn:¬v.n=0
 ·have hfin:Hid (shpB (.map k t) v=false):=Bb.2 (fun h=>by rw[Shp] at h;exact hn h.2.1);have qn:(v.n == 0)=false:=by simp[hn]
  have qn2:(v.n != 0)=true:=by simp[hn]
  clear hn HV hRk hRv;go_wp2_with fail
  all_goals
   go_ret;exact⟨ret_bool hfin.out.symm,hB5⟩
 replace hn:v.n=0:=Decidable.not_not.1 hn;by_cases ht:¬v.t=[]
 ·have hfin:Hid (shpB (.map k t) v=false):=Bb.2 (fun h=>by rw[Shp] at h;exact ht h.2.2.1);have qt:(v.t == [])=false:=by simp[ht]
  have qt2:(v.t != [])=true:=by simp[ht]
  clear ht HV hRk hRv;go_wp2_with fail
  all_goals
   go_ret;exact⟨ret_bool hfin.out.symm,hB5⟩
 replace ht:v.t=[]:=Decidable.not_not.1 ht;have hMp:=fun w=>Sm (tyT (.map k t)) (by have:=Bh (.map k t);omega) w
 have hem:mpT (tyT (.map k t))=(keyT k,tyT t,true):=by unfold mpT;rw[Cs hT]
 rw[hem] at hMp;have hfin:Hid (shpB (.map k t) v=true↔Fo (shpB (Cd k)) (shpB t) v.l):=by
  show _↔_;rw[Bf,O3 hk (by simp[bareB,hk,hn,ht])];unfold Fo;simp only[Bf,Li]
 have hno:Hid (¬Fo (shpB (Cd k)) (shpB t) v.l->shpB (.map k t) v=false):=fun h=>by
  rcases e:shpB (.map k t) v with _ | _
  ·rfl
  ·exact absurd (hfin.out.1 e) h
 have hround:∀(q:Nat) (wr:World),q<v.l.length->Below w5.heap.size w5 wr ->
   ∃x g o ax cx,v.l[q]?=some x∧ao=some ⟨g,o,none⟩∧g<wr.heap.size∧wr.cell? ⟨g,o+q*4,none⟩=some (iv x.k)∧wr.cell? ⟨g,o+q*4+1,none⟩=some (iv x.n)∧wr.cell? ⟨g,o+q*4+2,none⟩=some (bz x.t)∧wr.cell? ⟨g,o+q*4+3,none⟩=some (.slice ax x.l.length cx)∧IsW B wr x (.slice ax x.l.length cx):=by
  intro q wr hq hB;have hx:v.l[q]?=some v.l[q]:=List.getElem?_eq_getElem hq;obtain⟨g,o,ax,cx,e,_,hg1,c0,c1,c2,c3,hw⟩:=(HV.out.vs.below (hB5.trans (hB.mono hB5.size))).get hx;exact⟨v.l[q],g,o,ax,cx,hx,e,hg1,c0,c1,c2,c3,hw⟩
 have hend:∀wr,Below w5.heap.size w5 wr->wr.cell? ⟨w.heap.size,3,none⟩=some (.slice ao v.l.length cap)∧w.heap.size<wr.heap.size:=fun wr h=>⟨by rw[(Ag h).1 _ _ hgb5];exact e3,by have:=h.size;omega⟩
 clear HV hem;generalize tyT (.map k t)=y at *;generalize tyT t=yv at *;generalize keyT k=yk at *;generalize shpB t=pv at *;generalize shpB (Cd k)=pk at *;by_cases hbad:¬(v.l.length % 2=0∧v.l.length<=128)
 ·have hf2:Hid (shpB (.map k t) v=false):=hno.out (fun h=>hbad ⟨h.1,h.2.1⟩);clear hround hRk hRv;by_cases h2:v.l.length % 2=0
  ·have h2I:((v.l.length:Int) % 2 == 1)=false:=by simp;omega
   have h3I:(128:Int)<(v.l.length:Int):=by omega
   clear hbad;go_wp2_with fail;refine (hMp _).mono ?_;rintro e w6 ⟨rfl,hb6⟩;obtain⟨r3,hgr⟩:=hend w6 hb6;clear e0 e1 e2 e3 hMp;go_wp2;go_ret;exact⟨ret_bool hf2.out.symm,hB5.trans (hb6.mono hB5.size)⟩
  ·have h2I:((v.l.length:Int) % 2 == 1)=true:=by simp;omega
   clear hbad;go_wp2_with fail;refine (hMp _).mono ?_;rintro e w6 ⟨rfl,hb6⟩;obtain⟨r3,hgr⟩:=hend w6 hb6;clear e0 e1 e2 e3 hMp;go_wp2;go_ret;exact⟨ret_bool hf2.out.symm,hB5.trans (hb6.mono hB5.size)⟩
 have hok:v.l.length % 2=0∧v.l.length<=128:=Decidable.not_not.1 hbad;clear hbad;have h2I:((v.l.length:Int) % 2 == 1)=false:=by simp;omega
 have h3I:¬(128:Int)<(v.l.length:Int):=by omega
 go_wp2_with fail
 refine (hMp _).mono ?_;rintro e w6 ⟨rfl,hb6⟩;obtain⟨r3,hgr⟩:=hend w6 hb6;have hB6:Below w.heap.size w w6:=hB5.trans (hb6.mono hB5.size);replace hround:=fun q wr h1 (h2:Below w6.heap.size w6 wr)=>hround q wr h1 (hb6.trans (h2.mono hb6.size))
 replace hend:=fun wr (h2:Below w6.heap.size w6 wr)=>hend wr (hb6.trans (h2.mono hb6.size))
 clear e0 e1 e2 e3 hMp hb6 hB5 hgb5;go_wp2_with fail;clear r3 hgr
 go_loopg [110] v.l.length (fun g i wr=>∃q:Nat,q<=v.l.length∧g=v.l.length - q∧i=iv q∧Hid (MapI pk pv v.l q)∧Below w6.heap.size w6 wr)
 case atStart=>exact⟨0,Nat.zero_le _,rfl,rfl,⟨fun j x h=>by omega,fun j x y h=>by omega⟩,Below.refl _ _⟩
 case round=>
  obtain⟨q,hq,rfl,rfl,HA,hB⟩:=hrel;have hBw:Below w.heap.size w wr:=hB6.trans (hB.mono hB6.size);clear hk hn ht;by_cases hlt:q<v.l.length
  ·obtain⟨x,g,o,ax,cx,hx,rfl,hg,c0,c1,c2,c3,hwx⟩:=hround q wr hlt hB;have hltI:(q:Int)<(v.l.length:Int):=by omega
   have hx':Hid (v.l[q]?=some x):=hx;obtain⟨wx,hWx,hbx,hsx,x0,x1,x2,x3⟩:=Aw wr x (.slice ax x.l.length cx);have hCk:=fun w2 (h:Below wx.heap.size wx w2)=>hRk _ _ w2 (hwx.below (hbx.trans (h.mono hbx.size)))
   have hCv:=fun w2 (h:Below wx.heap.size wx w2)=>hRv _ _ w2 (hwx.below (hbx.trans (h.mono hbx.size)))
   have hgx:wr.heap.size<wx.heap.size:=by omega
   clear hx hRk hRv;by_cases hodd:q % 2=1
   ·have ho1:((q:Int) % 2 == 1)=true:=by simp;omega
    have ho2:((q:Int) % 2 == 0)=false:=by simp;omega
    have ho3:(q:Int) % 2=1:=by omega
    have ho4:(q:Int).tmod 2=1:=by rw[Int.tmod_eq_emod_of_nonneg (by omega)];exact ho3
    clear hround hend hwx;rcases hp:pv x with _ | _
    ·have hf2:Hid (shpB (.map k t) v=false):=hno.out (fun h=>by
      have:=h.2.2.2.1 (q / 2) x (by rw[show 2*(q / 2)+1=q by omega];exact hx'.out);rw[hp] at this;cases this)
     rw[hp] at hCv;clear hodd;go_wp2_with fail;refine wpE_begin (S:=fun w'=>w'.cell? ⟨wr.heap.size,0,none⟩=some (iv x.k)∧w'.cell? ⟨wr.heap.size,1,none⟩=some (iv x.n)∧w'.cell? ⟨wr.heap.size,2,none⟩=some (bz x.t)∧w'.cell? ⟨wr.heap.size,3,none⟩=some (.slice ax x.l.length cx)) (N:=fun _=>true) (by kernel_rfl) ?_;have hS0:wx.drew.cell? ⟨wr.heap.size,0,none⟩=some (iv x.k)∧wx.drew.cell? ⟨wr.heap.size,1,none⟩=some (iv x.n)∧wx.drew.cell? ⟨wr.heap.size,2,none⟩=some (bz x.t)∧wx.drew.cell? ⟨wr.heap.size,3,none⟩=some (.slice ax x.l.length cx):=⟨x0,x1,x2,x3⟩;refine Ao (some 120) 0 (.agg #[iv x.k,iv x.n,bz x.t,.slice ax x.l.length cx]) rfl rfl (by kernel_rfl) (fun _ _ _ h=>h) (by intro w hS;(try dsimp only at hS);go_split_ands;go_simp) hS0 ?_
     try simp only[aP]
     refine Ao (some 121) 1 (.string ⟨yv.toArray⟩) rfl rfl (by kernel_rfl) (fun _ _ _ h=>h) (by intro w hS;(try dsimp only at hS);go_split_ands;go_simp) hS0 ?_
     try simp only[aP]
     refine Ac (i:=2) (by kernel_rfl) rfl rfl (fun K hK=>?_);go_simp;refine (hCv _ (Below.refl _ _).drew).mono ?_;rintro e w3 ⟨rfl,hb3⟩;replace hb3:=Ad hb3;obtain⟨f3,-⟩:=Ag hb3;replace hS0:w3.cell? ⟨wr.heap.size,0,none⟩=some (iv x.k)∧w3.cell? ⟨wr.heap.size,1,none⟩=some (iv x.n)∧w3.cell? ⟨wr.heap.size,2,none⟩=some (bz x.t)∧w3.cell? ⟨wr.heap.size,3,none⟩=some (.slice ax x.l.length cx):=⟨by rw[f3 _ _ hgx];exact x0,by rw[f3 _ _ hgx];exact x1,by rw[f3 _ _ hgx];exact x2,by rw[f3 _ _ hgx];exact x3⟩;refine hK _ _ (fun _=>hS0) ?_;clear hK K
     try simp only[aP]
     refine Ao (some 123) 3 (.bool true) rfl rfl (by kernel_rfl) (fun _ _ _ h=>h) (by intro w hS;(try dsimp only at hS);go_split_ands;go_simp) hS0 ?_
     try simp only[aP]
     refine Ao (some 124) 4 (.bool true) rfl rfl (by kernel_rfl) (fun _ _ _ h=>h) (by intro w hS;(try dsimp only at hS);go_split_ands;go_simp) hS0 ?_
     try simp only[aP]
     refine Ar (some 125) 5 rfl rfl (by kernel_rfl) (fun _ _ _ h=>h) hS0 ?_
     try simp only[aP]
     refine Ar (some 126) 6 rfl rfl (by kernel_rfl) (fun _ _ _ h=>h) hS0 ?_
     try simp only[aP]
     refine Ar (some 127) 7 rfl rfl (by kernel_rfl) (fun _ _ _ h=>h) hS0 ?_
     try simp only[aP]
     refine Ar (some 128) 8 rfl rfl (by kernel_rfl) (fun _ _ _ h=>h) hS0 ?_
     try simp only[aP]
     refine Ar (some 129) 9 rfl rfl (by kernel_rfl) (fun _ _ _ h=>h) hS0 ?_
     try simp only[aP]
     refine Ar (some 130) 10 rfl rfl (by kernel_rfl) (fun _ _ _ h=>h) hS0 ?_
     try simp only[aP]
     refine Ar (some 131) 11 rfl rfl (by kernel_rfl) (fun _ _ _ h=>h) hS0 ?_
     try simp only[aP]
     refine Ar (some 132) 12 rfl rfl (by kernel_rfl) (fun _ _ _ h=>h) hS0 ?_
     try simp only[aP]
     refine Ar (some 133) 13 rfl rfl (by kernel_rfl) (fun _ _ _ h=>h) hS0 ?_
     try simp only[aP]
     refine Ar (some 134) 14 rfl rfl (by kernel_rfl) (fun _ _ _ h=>h) hS0 ?_
     try simp only[aP]
     refine Ar (some 135) 15 rfl rfl (by kernel_rfl) (fun _ _ _ h=>h) hS0 ?_
     try simp only[aP]
     refine Ar (some 136) 16 rfl rfl (by kernel_rfl) (fun _ _ _ h=>h) hS0 ?_
     try simp only[aP]
     refine Ar (some 137) 17 rfl rfl (by kernel_rfl) (fun _ _ _ h=>h) hS0 ?_
     try simp only[aP]
     refine Ar (some 138) 18 rfl rfl (by kernel_rfl) (fun _ _ _ h=>h) hS0 ?_
     try simp only[aP]
     refine Ar (some 139) 19 rfl rfl (by kernel_rfl) (fun _ _ _ h=>h) hS0 ?_
     try simp only[aP]
     refine Ar (some 140) 20 rfl rfl (by kernel_rfl) (fun _ _ _ h=>h) hS0 ?_
     try simp only[aP]
     refine Ar (some 141) 21 rfl rfl (by kernel_rfl) (fun _ _ _ h=>h) hS0 ?_
     try simp only[aP]
     refine Ar (some 142) 22 rfl rfl (by kernel_rfl) (fun _ _ _ h=>h) hS0 ?_
     try simp only[aP]
     refine Ao (some 143) 23 (.bool true) rfl rfl (by kernel_rfl) (fun _ _ _ h=>h) (by intro w hS;(try dsimp only at hS);go_split_ands;go_simp) hS0 ?_
     try simp only[aP]
     refine Am (by kernel_rfl) ?_;have hB3:Below w6.heap.size w6 w3:=hB.trans ((hbx.trans (hb3.mono hbx.size)).mono hB.size);have hBw3:Below w.heap.size w w3:=hB6.trans (hB3.mono hB6.size);clear hCk hCv f3 x0 x1 x2 x3 c0 c1 c2 c3 hWx hS0;simp only[Exit.inBlock,Exit.then];refine ‹∀(a:Act) (w:World),_->_› _ _ ?_;go_wp2;go_ret;exact⟨ret_bool hf2.out.symm,hBw3⟩
    ·have HA2:Hid (MapI pk pv v.l (q+1)):=HA.out.step hx'.out (by rw[if_neg (by omega)];exact hp) (fun m z e h0 hz=>by omega);rw[hp] at hCv;clear hodd;go_wp2_with fail;refine wpE_begin (S:=fun w'=>w'.cell? ⟨wr.heap.size,0,none⟩=some (iv x.k)∧w'.cell? ⟨wr.heap.size,1,none⟩=some (iv x.n)∧w'.cell? ⟨wr.heap.size,2,none⟩=some (bz x.t)∧w'.cell? ⟨wr.heap.size,3,none⟩=some (.slice ax x.l.length cx)) (N:=fun _=>true) (by kernel_rfl) ?_;have hS0:wx.drew.cell? ⟨wr.heap.size,0,none⟩=some (iv x.k)∧wx.drew.cell? ⟨wr.heap.size,1,none⟩=some (iv x.n)∧wx.drew.cell? ⟨wr.heap.size,2,none⟩=some (bz x.t)∧wx.drew.cell? ⟨wr.heap.size,3,none⟩=some (.slice ax x.l.length cx):=⟨x0,x1,x2,x3⟩;refine Ao (some 120) 0 (.agg #[iv x.k,iv x.n,bz x.t,.slice ax x.l.length cx]) rfl rfl (by kernel_rfl) (fun _ _ _ h=>h) (by intro w hS;(try dsimp only at hS);go_split_ands;go_simp) hS0 ?_
     try simp only[aP]
     refine Ao (some 121) 1 (.string ⟨yv.toArray⟩) rfl rfl (by kernel_rfl) (fun _ _ _ h=>h) (by intro w hS;(try dsimp only at hS);go_split_ands;go_simp) hS0 ?_
     try simp only[aP]
     refine Ac (i:=2) (by kernel_rfl) rfl rfl (fun K hK=>?_);go_simp;refine (hCv _ (Below.refl _ _).drew).mono ?_;rintro e w3 ⟨rfl,hb3⟩;replace hb3:=Ad hb3;obtain⟨f3,-⟩:=Ag hb3;replace hS0:w3.cell? ⟨wr.heap.size,0,none⟩=some (iv x.k)∧w3.cell? ⟨wr.heap.size,1,none⟩=some (iv x.n)∧w3.cell? ⟨wr.heap.size,2,none⟩=some (bz x.t)∧w3.cell? ⟨wr.heap.size,3,none⟩=some (.slice ax x.l.length cx):=⟨by rw[f3 _ _ hgx];exact x0,by rw[f3 _ _ hgx];exact x1,by rw[f3 _ _ hgx];exact x2,by rw[f3 _ _ hgx];exact x3⟩;refine hK _ _ (fun _=>hS0) ?_;clear hK K
     try simp only[aP]
     refine Ao (some 123) 3 (.bool false) rfl rfl (by kernel_rfl) (fun _ _ _ h=>h) (by intro w hS;(try dsimp only at hS);go_split_ands;go_simp) hS0 ?_
     try simp only[aP]
     refine Ao (some 124) 4 (.bool false) rfl rfl (by kernel_rfl) (fun _ _ _ h=>h) (by intro w hS;(try dsimp only at hS);go_split_ands;go_simp) hS0 ?_
     try simp only[aP]
     refine Ao (some 125) 5 (iv q) rfl rfl (by kernel_rfl) (fun _ _ _ h=>h) (by intro w hS;(try dsimp only at hS);go_split_ands;go_simp) hS0 ?_
     try simp only[aP]
     refine Ao (some 126) 6 (iv 1) rfl rfl (by kernel_rfl) (fun _ _ _ h=>h) (by intro w hS;(try dsimp only at hS);go_split_ands;go_simp) hS0 ?_
     try simp only[aP]
     refine Ao (some 127) 7 (.bool false) rfl rfl (by kernel_rfl) (fun _ _ _ h=>h) (by intro w hS;(try dsimp only at hS);go_split_ands;go_simp) hS0 ?_
     try simp only[aP]
     refine Ao (some 128) 8 (.bool false) rfl rfl (by kernel_rfl) (fun _ _ _ h=>h) (by intro w hS;(try dsimp only at hS);go_split_ands;go_simp) hS0 ?_
     try simp only[aP]
     refine Ar (some 129) 9 rfl rfl (by kernel_rfl) (fun _ _ _ h=>h) hS0 ?_
     try simp only[aP]
     refine Ar (some 130) 10 rfl rfl (by kernel_rfl) (fun _ _ _ h=>h) hS0 ?_
     try simp only[aP]
     refine Ao (some 131) 11 (.bool false) rfl rfl (by kernel_rfl) (fun _ _ _ h=>h) (by intro w hS;(try dsimp only at hS);go_split_ands;go_simp) hS0 ?_
     try simp only[aP]
     refine Ao (some 132) 12 (.bool false) rfl rfl (by kernel_rfl) (fun _ _ _ h=>h) (by intro w hS;(try dsimp only at hS);go_split_ands;go_simp) hS0 ?_
     try simp only[aP]
     refine Ar (some 133) 13 rfl rfl (by kernel_rfl) (fun _ _ _ h=>h) hS0 ?_
     try simp only[aP]
     refine Ar (some 134) 14 rfl rfl (by kernel_rfl) (fun _ _ _ h=>h) hS0 ?_
     try simp only[aP]
     refine Ar (some 135) 15 rfl rfl (by kernel_rfl) (fun _ _ _ h=>h) hS0 ?_
     try simp only[aP]
     refine Ar (some 136) 16 rfl rfl (by kernel_rfl) (fun _ _ _ h=>h) hS0 ?_
     try simp only[aP]
     refine Ar (some 137) 17 rfl rfl (by kernel_rfl) (fun _ _ _ h=>h) hS0 ?_
     try simp only[aP]
     refine Ar (some 138) 18 rfl rfl (by kernel_rfl) (fun _ _ _ h=>h) hS0 ?_
     try simp only[aP]
     refine Ar (some 139) 19 rfl rfl (by kernel_rfl) (fun _ _ _ h=>h) hS0 ?_
     try simp only[aP]
     refine Ar (some 140) 20 rfl rfl (by kernel_rfl) (fun _ _ _ h=>h) hS0 ?_
     try simp only[aP]
     refine Ar (some 141) 21 rfl rfl (by kernel_rfl) (fun _ _ _ h=>h) hS0 ?_
     try simp only[aP]
     refine Ao (some 142) 22 (.bool false) rfl rfl (by kernel_rfl) (fun _ _ _ h=>h) (by intro w hS;(try dsimp only at hS);go_split_ands;go_simp) hS0 ?_
     try simp only[aP]
     refine Ao (some 143) 23 (.bool false) rfl rfl (by kernel_rfl) (fun _ _ _ h=>h) (by intro w hS;(try dsimp only at hS);go_split_ands;go_simp) hS0 ?_
     try simp only[aP]
     refine Am (by kernel_rfl) ?_;have hB3:Below w6.heap.size w6 w3:=hB.trans ((hbx.trans (hb3.mono hbx.size)).mono hB.size);have hBw3:Below w.heap.size w w3:=hB6.trans (hB3.mono hB6.size);clear hCk hCv f3 x0 x1 x2 x3 c0 c1 c2 c3 hWx hS0;simp only[Exit.inBlock,Exit.then];refine ‹∀(a:Act) (w:World),_->_› _ _ ?_;go_wp2_with fail;go_roundg (v.l.length - (q+1))
     case measure=>omega
     case rel=>exact⟨q+1,by omega,rfl,by go_num,HA2,hB3⟩
   ·have ho1:((q:Int) % 2 == 1)=false:=by simp;omega
    have ho2:((q:Int) % 2 == 0)=true:=by simp;omega
    have ho3:(q:Int) % 2=0:=by omega
    have ho4:(q:Int).tmod 2=0:=by rw[Int.tmod_eq_emod_of_nonneg (by omega)];exact ho3
    rcases hp:pk x with _ | _
    ·have hf2:Hid (shpB (.map k t) v=false):=hno.out (fun h=>by
      have:=h.2.2.1 (q / 2) x (by rw[show 2*(q / 2)=q by omega];exact hx'.out);rw[hp] at this;cases this)
     rw[hp] at hCk;clear hodd hround hend hwx;go_wp2_with fail;refine wpE_begin (S:=fun w'=>w'.cell? ⟨wr.heap.size,0,none⟩=some (iv x.k)∧w'.cell? ⟨wr.heap.size,1,none⟩=some (iv x.n)∧w'.cell? ⟨wr.heap.size,2,none⟩=some (bz x.t)∧w'.cell? ⟨wr.heap.size,3,none⟩=some (.slice ax x.l.length cx)) (N:=fun _=>true) (by kernel_rfl) ?_;have hS0:wx.drew.cell? ⟨wr.heap.size,0,none⟩=some (iv x.k)∧wx.drew.cell? ⟨wr.heap.size,1,none⟩=some (iv x.n)∧wx.drew.cell? ⟨wr.heap.size,2,none⟩=some (bz x.t)∧wx.drew.cell? ⟨wr.heap.size,3,none⟩=some (.slice ax x.l.length cx):=⟨x0,x1,x2,x3⟩;refine Ao (some 120) 0 (.agg #[iv x.k,iv x.n,bz x.t,.slice ax x.l.length cx]) rfl rfl (by kernel_rfl) (fun _ _ _ h=>h) (by intro w hS;(try dsimp only at hS);go_split_ands;go_simp) hS0 ?_
     try simp only[aP]
     refine Ao (some 121) 1 (.string ⟨yk.toArray⟩) rfl rfl (by kernel_rfl) (fun _ _ _ h=>h) (by intro w hS;(try dsimp only at hS);go_split_ands;go_simp) hS0 ?_
     try simp only[aP]
     refine Ac (i:=2) (by kernel_rfl) rfl rfl (fun K hK=>?_);go_simp;refine (hCk _ (Below.refl _ _).drew).mono ?_;rintro e w3 ⟨rfl,hb3⟩;replace hb3:=Ad hb3;obtain⟨f3,-⟩:=Ag hb3;replace hS0:w3.cell? ⟨wr.heap.size,0,none⟩=some (iv x.k)∧w3.cell? ⟨wr.heap.size,1,none⟩=some (iv x.n)∧w3.cell? ⟨wr.heap.size,2,none⟩=some (bz x.t)∧w3.cell? ⟨wr.heap.size,3,none⟩=some (.slice ax x.l.length cx):=⟨by rw[f3 _ _ hgx];exact x0,by rw[f3 _ _ hgx];exact x1,by rw[f3 _ _ hgx];exact x2,by rw[f3 _ _ hgx];exact x3⟩;refine hK _ _ (fun _=>hS0) ?_;clear hK K
     try simp only[aP]
     refine Ao (some 123) 3 (.bool true) rfl rfl (by kernel_rfl) (fun _ _ _ h=>h) (by intro w hS;(try dsimp only at hS);go_split_ands;go_simp) hS0 ?_
     try simp only[aP]
     refine Ao (some 124) 4 (.bool true) rfl rfl (by kernel_rfl) (fun _ _ _ h=>h) (by intro w hS;(try dsimp only at hS);go_split_ands;go_simp) hS0 ?_
     try simp only[aP]
     refine Ar (some 125) 5 rfl rfl (by kernel_rfl) (fun _ _ _ h=>h) hS0 ?_
     try simp only[aP]
     refine Ar (some 126) 6 rfl rfl (by kernel_rfl) (fun _ _ _ h=>h) hS0 ?_
     try simp only[aP]
     refine Ar (some 127) 7 rfl rfl (by kernel_rfl) (fun _ _ _ h=>h) hS0 ?_
     try simp only[aP]
     refine Ar (some 128) 8 rfl rfl (by kernel_rfl) (fun _ _ _ h=>h) hS0 ?_
     try simp only[aP]
     refine Ar (some 129) 9 rfl rfl (by kernel_rfl) (fun _ _ _ h=>h) hS0 ?_
     try simp only[aP]
     refine Ar (some 130) 10 rfl rfl (by kernel_rfl) (fun _ _ _ h=>h) hS0 ?_
     try simp only[aP]
     refine Ar (some 131) 11 rfl rfl (by kernel_rfl) (fun _ _ _ h=>h) hS0 ?_
     try simp only[aP]
     refine Ar (some 132) 12 rfl rfl (by kernel_rfl) (fun _ _ _ h=>h) hS0 ?_
     try simp only[aP]
     refine Ar (some 133) 13 rfl rfl (by kernel_rfl) (fun _ _ _ h=>h) hS0 ?_
     try simp only[aP]
     refine Ar (some 134) 14 rfl rfl (by kernel_rfl) (fun _ _ _ h=>h) hS0 ?_
     try simp only[aP]
     refine Ar (some 135) 15 rfl rfl (by kernel_rfl) (fun _ _ _ h=>h) hS0 ?_
     try simp only[aP]
     refine Ar (some 136) 16 rfl rfl (by kernel_rfl) (fun _ _ _ h=>h) hS0 ?_
     try simp only[aP]
     refine Ar (some 137) 17 rfl rfl (by kernel_rfl) (fun _ _ _ h=>h) hS0 ?_
     try simp only[aP]
     refine Ar (some 138) 18 rfl rfl (by kernel_rfl) (fun _ _ _ h=>h) hS0 ?_
     try simp only[aP]
     refine Ar (some 139) 19 rfl rfl (by kernel_rfl) (fun _ _ _ h=>h) hS0 ?_
     try simp only[aP]
     refine Ar (some 140) 20 rfl rfl (by kernel_rfl) (fun _ _ _ h=>h) hS0 ?_
     try simp only[aP]
     refine Ar (some 141) 21 rfl rfl (by kernel_rfl) (fun _ _ _ h=>h) hS0 ?_
     try simp only[aP]
     refine Ar (some 142) 22 rfl rfl (by kernel_rfl) (fun _ _ _ h=>h) hS0 ?_
     try simp only[aP]
     refine Ao (some 143) 23 (.bool true) rfl rfl (by kernel_rfl) (fun _ _ _ h=>h) (by intro w hS;(try dsimp only at hS);go_split_ands;go_simp) hS0 ?_
     try simp only[aP]
     refine Am (by kernel_rfl) ?_;have hB3:Below w6.heap.size w6 w3:=hB.trans ((hbx.trans (hb3.mono hbx.size)).mono hB.size);have hBw3:Below w.heap.size w w3:=hB6.trans (hB3.mono hB6.size);clear hCk hCv f3 x0 x1 x2 x3 c0 c1 c2 c3 hWx hS0;simp only[Exit.inBlock,Exit.then];refine ‹∀(a:Act) (w:World),_->_› _ _ ?_;go_wp2;go_ret;exact⟨ret_bool hf2.out.symm,hBw3⟩
    ·rw[hp] at hCk;by_cases hq1:q<=1
     ·have HA2:Hid (MapI pk pv v.l (q+1)):=HA.out.step hx'.out (by rw[if_pos (by omega)];exact hp) (fun m z e h0 hz=>by omega);have hN:¬1<q:=by omega
      have hNI:¬(1:Int)<(q:Int):=by omega
      have hdN:decide (1<q)=false:=by simp;omega
      clear hodd hround hend hwx;go_wp2_with fail;refine wpE_begin (S:=fun w'=>w'.cell? ⟨wr.heap.size,0,none⟩=some (iv x.k)∧w'.cell? ⟨wr.heap.size,1,none⟩=some (iv x.n)∧w'.cell? ⟨wr.heap.size,2,none⟩=some (bz x.t)∧w'.cell? ⟨wr.heap.size,3,none⟩=some (.slice ax x.l.length cx)) (N:=fun _=>true) (by kernel_rfl) ?_;have hS0:wx.drew.cell? ⟨wr.heap.size,0,none⟩=some (iv x.k)∧wx.drew.cell? ⟨wr.heap.size,1,none⟩=some (iv x.n)∧wx.drew.cell? ⟨wr.heap.size,2,none⟩=some (bz x.t)∧wx.drew.cell? ⟨wr.heap.size,3,none⟩=some (.slice ax x.l.length cx):=⟨x0,x1,x2,x3⟩;refine Ao (some 120) 0 (.agg #[iv x.k,iv x.n,bz x.t,.slice ax x.l.length cx]) rfl rfl (by kernel_rfl) (fun _ _ _ h=>h) (by intro w hS;(try dsimp only at hS);go_split_ands;go_simp) hS0 ?_
      try simp only[aP]
      refine Ao (some 121) 1 (.string ⟨yk.toArray⟩) rfl rfl (by kernel_rfl) (fun _ _ _ h=>h) (by intro w hS;(try dsimp only at hS);go_split_ands;go_simp) hS0 ?_
      try simp only[aP]
      refine Ac (i:=2) (by kernel_rfl) rfl rfl (fun K hK=>?_);go_simp;refine (hCk _ (Below.refl _ _).drew).mono ?_;rintro e w3 ⟨rfl,hb3⟩;replace hb3:=Ad hb3;obtain⟨f3,-⟩:=Ag hb3;replace hS0:w3.cell? ⟨wr.heap.size,0,none⟩=some (iv x.k)∧w3.cell? ⟨wr.heap.size,1,none⟩=some (iv x.n)∧w3.cell? ⟨wr.heap.size,2,none⟩=some (bz x.t)∧w3.cell? ⟨wr.heap.size,3,none⟩=some (.slice ax x.l.length cx):=⟨by rw[f3 _ _ hgx];exact x0,by rw[f3 _ _ hgx];exact x1,by rw[f3 _ _ hgx];exact x2,by rw[f3 _ _ hgx];exact x3⟩;refine hK _ _ (fun _=>hS0) ?_;clear hK K
      try simp only[aP]
      refine Ao (some 123) 3 (.bool false) rfl rfl (by kernel_rfl) (fun _ _ _ h=>h) (by intro w hS;(try dsimp only at hS);go_split_ands;go_simp) hS0 ?_
      try simp only[aP]
      refine Ao (some 124) 4 (.bool false) rfl rfl (by kernel_rfl) (fun _ _ _ h=>h) (by intro w hS;(try dsimp only at hS);go_split_ands;go_simp) hS0 ?_
      try simp only[aP]
      refine Ao (some 125) 5 (iv q) rfl rfl (by kernel_rfl) (fun _ _ _ h=>h) (by intro w hS;(try dsimp only at hS);go_split_ands;go_simp) hS0 ?_
      try simp only[aP]
      refine Ao (some 126) 6 (iv 0) rfl rfl (by kernel_rfl) (fun _ _ _ h=>h) (by intro w hS;(try dsimp only at hS);go_split_ands;go_simp) hS0 ?_
      try simp only[aP]
      refine Ao (some 127) 7 (.bool true) rfl rfl (by kernel_rfl) (fun _ _ _ h=>h) (by intro w hS;(try dsimp only at hS);go_split_ands;go_simp) hS0 ?_
      try simp only[aP]
      refine Ao (some 128) 8 (.bool true) rfl rfl (by kernel_rfl) (fun _ _ _ h=>h) (by intro w hS;(try dsimp only at hS);go_split_ands;go_simp) hS0 ?_
      try simp only[aP]
      refine Ao (some 129) 9 (iv q) rfl rfl (by kernel_rfl) (fun _ _ _ h=>h) (by intro w hS;(try dsimp only at hS);go_split_ands;go_simp) hS0 ?_
      try simp only[aP]
      refine Ao (some 130) 10 (.bool false) rfl rfl (by kernel_rfl) (fun _ _ _ h=>h) (by intro w hS;(try dsimp only at hS);go_split_ands;go_simp) hS0 ?_
      try simp only[aP]
      refine Ao (some 131) 11 (.bool false) rfl rfl (by kernel_rfl) (fun _ _ _ h=>h) (by intro w hS;(try dsimp only at hS);go_split_ands;go_simp) hS0 ?_
      try simp only[aP]
      refine Ao (some 132) 12 (.bool false) rfl rfl (by kernel_rfl) (fun _ _ _ h=>h) (by intro w hS;(try dsimp only at hS);go_split_ands;go_simp) hS0 ?_
      try simp only[aP]
      refine Ar (some 133) 13 rfl rfl (by kernel_rfl) (fun _ _ _ h=>h) hS0 ?_
      try simp only[aP]
      refine Ar (some 134) 14 rfl rfl (by kernel_rfl) (fun _ _ _ h=>h) hS0 ?_
      try simp only[aP]
      refine Ar (some 135) 15 rfl rfl (by kernel_rfl) (fun _ _ _ h=>h) hS0 ?_
      try simp only[aP]
      refine Ar (some 136) 16 rfl rfl (by kernel_rfl) (fun _ _ _ h=>h) hS0 ?_
      try simp only[aP]
      refine Ar (some 137) 17 rfl rfl (by kernel_rfl) (fun _ _ _ h=>h) hS0 ?_
      try simp only[aP]
      refine Ar (some 138) 18 rfl rfl (by kernel_rfl) (fun _ _ _ h=>h) hS0 ?_
      try simp only[aP]
      refine Ar (some 139) 19 rfl rfl (by kernel_rfl) (fun _ _ _ h=>h) hS0 ?_
      try simp only[aP]
      refine Ar (some 140) 20 rfl rfl (by kernel_rfl) (fun _ _ _ h=>h) hS0 ?_
      try simp only[aP]
      refine Ar (some 141) 21 rfl rfl (by kernel_rfl) (fun _ _ _ h=>h) hS0 ?_
      try simp only[aP]
      refine Ao (some 142) 22 (.bool false) rfl rfl (by kernel_rfl) (fun _ _ _ h=>h) (by intro w hS;(try dsimp only at hS);go_split_ands;go_simp) hS0 ?_
      try simp only[aP]
      refine Ao (some 143) 23 (.bool false) rfl rfl (by kernel_rfl) (fun _ _ _ h=>h) (by intro w hS;(try dsimp only at hS);go_split_ands;go_simp) hS0 ?_
      try simp only[aP]
      refine Am (by kernel_rfl) ?_;have hB3:Below w6.heap.size w6 w3:=hB.trans ((hbx.trans (hb3.mono hbx.size)).mono hB.size);have hBw3:Below w.heap.size w w3:=hB6.trans (hB3.mono hB6.size);clear hCk hCv f3 x0 x1 x2 x3 c0 c1 c2 c3 hWx hS0;simp only[Exit.inBlock,Exit.then];refine ‹∀(a:Act) (w:World),_->_› _ _ ?_;go_wp2_with fail;go_roundg (v.l.length - (q+1))
      case measure=>omega
      case rel=>exact⟨q+1,by omega,rfl,by go_num,HA2,hB3⟩
     ·obtain⟨m,hmq⟩:∃m,m+2=q:=⟨q - 2,by omega⟩;obtain⟨z,g',o',az,cz,hz,e,hgz,z0,z1,z2,z3,hwz⟩:=hround m wr (by omega) hB;simp only[Option.some.injEq,Addr.mk.injEq] at e;obtain⟨rfl,rfl,-⟩:=e;obtain⟨r3,hgr⟩:=hend wr hB;obtain⟨fx,-⟩:=Ag hbx;rw[<-fx _ _ hg] at z0 z1 z2 z3;rw[<-fx _ _ hgr] at r3;have hgl:g<wx.heap.size:=by omega
      have hgl2:w.heap.size<wx.heap.size:=by omega
      have hCc:=fun w2 (h:Below wx.heap.size wx w2)=>Aq (hwz.below (hbx.trans (h.mono hbx.size))) (hwx.below (hbx.trans (h.mono hbx.size)))
      have hz':Hid (v.l[m]?=some z):=hz;have hm0:m % 2=0:=by omega
      have hI0:(0:Int)<=(m:Int):=by omega
      have hI1:(m:Int)<(v.l.length:Int):=by omega
      have hN:1<q:=by omega
      have hNI:(1:Int)<(q:Int):=by omega
      have hdN:decide (1<q)=true:=by simp;omega
      have hs22:(q:Int) - 2=(m:Int):=by omega
      have hw22:IntKind.i64.wrap ((q:Int) - 2)=(m:Int):=by rw[hs22,IntKind.wrap_i64];omega
      have hw23:IntKind.i64.wrap (m:Int)=(m:Int):=by rw[IntKind.wrap_i64];omega
      have Hmq:Hid (m+2=q):=hmq;clear hodd hround hend hwx hwz hz fx hCv hmq hq1 hsx;go_wp2_with fail;refine wpE_begin (S:=fun w'=>w'.cell? ⟨wr.heap.size,0,none⟩=some (iv x.k)∧w'.cell? ⟨wr.heap.size,1,none⟩=some (iv x.n)∧w'.cell? ⟨wr.heap.size,2,none⟩=some (bz x.t)∧w'.cell? ⟨wr.heap.size,3,none⟩=some (.slice ax x.l.length cx)∧w'.cell? ⟨g,o+m*4,none⟩=some (iv z.k)∧w'.cell? ⟨g,o+m*4+1,none⟩=some (iv z.n)∧w'.cell? ⟨g,o+m*4+2,none⟩=some (bz z.t)∧w'.cell? ⟨g,o+m*4+3,none⟩=some (.slice az z.l.length cz)∧w'.cell? ⟨w.heap.size,3,none⟩=some (sL g o v.l.length cap)) (N:=fun _=>true) (by kernel_rfl) ?_;have hS0:wx.drew.cell? ⟨wr.heap.size,0,none⟩=some (iv x.k)∧wx.drew.cell? ⟨wr.heap.size,1,none⟩=some (iv x.n)∧wx.drew.cell? ⟨wr.heap.size,2,none⟩=some (bz x.t)∧wx.drew.cell? ⟨wr.heap.size,3,none⟩=some (.slice ax x.l.length cx)∧wx.drew.cell? ⟨g,o+m*4,none⟩=some (iv z.k)∧wx.drew.cell? ⟨g,o+m*4+1,none⟩=some (iv z.n)∧wx.drew.cell? ⟨g,o+m*4+2,none⟩=some (bz z.t)∧wx.drew.cell? ⟨g,o+m*4+3,none⟩=some (.slice az z.l.length cz)∧wx.drew.cell? ⟨w.heap.size,3,none⟩=some (sL g o v.l.length cap):=⟨x0,x1,x2,x3,z0,z1,z2,z3,r3⟩;refine Ao (some 120) 0 (.agg #[iv x.k,iv x.n,bz x.t,.slice ax x.l.length cx]) rfl rfl (by kernel_rfl) (fun _ _ _ h=>h) (by intro w hS;(try dsimp only at hS);go_split_ands;go_simp) hS0 ?_
      try simp only[aP]
      refine Ao (some 121) 1 (.string ⟨yk.toArray⟩) rfl rfl (by kernel_rfl) (fun _ _ _ h=>h) (by intro w hS;(try dsimp only at hS);go_split_ands;go_simp) hS0 ?_
      try simp only[aP]
      refine Ac (i:=2) (by kernel_rfl) rfl rfl (fun K hK=>?_);go_simp;refine (hCk _ (Below.refl _ _).drew).mono ?_;rintro e w3 ⟨rfl,hb3⟩;replace hb3:=Ad hb3;obtain⟨f3,-⟩:=Ag hb3;replace hS0:w3.cell? ⟨wr.heap.size,0,none⟩=some (iv x.k)∧w3.cell? ⟨wr.heap.size,1,none⟩=some (iv x.n)∧w3.cell? ⟨wr.heap.size,2,none⟩=some (bz x.t)∧w3.cell? ⟨wr.heap.size,3,none⟩=some (.slice ax x.l.length cx)∧w3.cell? ⟨g,o+m*4,none⟩=some (iv z.k)∧w3.cell? ⟨g,o+m*4+1,none⟩=some (iv z.n)∧w3.cell? ⟨g,o+m*4+2,none⟩=some (bz z.t)∧w3.cell? ⟨g,o+m*4+3,none⟩=some (.slice az z.l.length cz)∧w3.cell? ⟨w.heap.size,3,none⟩=some (sL g o v.l.length cap):=⟨by rw[f3 _ _ hgx];exact x0,by rw[f3 _ _ hgx];exact x1,by rw[f3 _ _ hgx];exact x2,by rw[f3 _ _ hgx];exact x3,by rw[f3 _ _ hgl];exact z0,by rw[f3 _ _ hgl];exact z1,by rw[f3 _ _ hgl];exact z2,by rw[f3 _ _ hgl];exact z3,by rw[f3 _ _ hgl2];exact r3⟩;refine hK _ _ (fun _=>hS0) ?_;clear hK K
      try simp only[aP]
      refine Ao (some 123) 3 (.bool false) rfl rfl (by kernel_rfl) (fun _ _ _ h=>h) (by intro w hS;(try dsimp only at hS);go_split_ands;go_simp) hS0 ?_
      try simp only[aP]
      refine Ao (some 124) 4 (.bool false) rfl rfl (by kernel_rfl) (fun _ _ _ h=>h) (by intro w hS;(try dsimp only at hS);go_split_ands;go_simp) hS0 ?_
      try simp only[aP]
      refine Ao (some 125) 5 (iv q) rfl rfl (by kernel_rfl) (fun _ _ _ h=>h) (by intro w hS;(try dsimp only at hS);go_split_ands;go_simp) hS0 ?_
      try simp only[aP]
      refine Ao (some 126) 6 (iv 0) rfl rfl (by kernel_rfl) (fun _ _ _ h=>h) (by intro w hS;(try dsimp only at hS);go_split_ands;go_simp) hS0 ?_
      try simp only[aP]
      refine Ao (some 127) 7 (.bool true) rfl rfl (by kernel_rfl) (fun _ _ _ h=>h) (by intro w hS;(try dsimp only at hS);go_split_ands;go_simp) hS0 ?_
      try simp only[aP]
      refine Ao (some 128) 8 (.bool true) rfl rfl (by kernel_rfl) (fun _ _ _ h=>h) (by intro w hS;(try dsimp only at hS);go_split_ands;go_simp) hS0 ?_
      try simp only[aP]
      refine Ao (some 129) 9 (iv q) rfl rfl (by kernel_rfl) (fun _ _ _ h=>h) (by intro w hS;(try dsimp only at hS);go_split_ands;go_simp) hS0 ?_
      try simp only[aP]
      refine Ao (some 130) 10 (.bool true) rfl rfl (by kernel_rfl) (fun _ _ _ h=>h) (by intro w hS;(try dsimp only at hS);go_split_ands;go_simp) hS0 ?_
      try simp only[aP]
      refine Ao (some 131) 11 (.bool true) rfl rfl (by kernel_rfl) (fun _ _ _ h=>h) (by intro w hS;(try dsimp only at hS);go_split_ands;go_simp) hS0 ?_
      try simp only[aP]
      refine Ao (some 132) 12 (.bool true) rfl rfl (by kernel_rfl) (fun _ _ _ h=>h) (by intro w hS;(try dsimp only at hS);go_split_ands;go_simp) hS0 ?_
      try simp only[aP]
      refine Ao (some 133) 13 (pt w.heap.size 3) rfl rfl (by kernel_rfl) (fun _ _ _ h=>h) (by intro w hS;(try dsimp only at hS);go_split_ands;go_simp) hS0 ?_
      try simp only[aP]
      refine Ao (some 134) 14 (sL g o v.l.length cap) rfl rfl (by kernel_rfl) (fun _ _ _ h=>h) (by intro w hS;(try dsimp only at hS);go_split_ands;go_simp) hS0 ?_
      try simp only[aP]
      refine Ao (some 135) 15 (iv q) rfl rfl (by kernel_rfl) (fun _ _ _ h=>h) (by intro w hS;(try dsimp only at hS);go_split_ands;go_simp) hS0 ?_
      try simp only[aP]
      refine Ao (some 136) 16 (iv m) rfl rfl (by kernel_rfl) (fun _ _ _ h=>h) (by intro w hS;(try dsimp only at hS);go_split_ands;go_simp) hS0 ?_
      try simp only[aP]
      refine Ao (some 137) 17 (pt g (o+m*4)) rfl rfl (by kernel_rfl) (fun _ _ _ h=>h) (by intro w hS;(try dsimp only at hS);go_split_ands;go_simp) hS0 ?_
      try simp only[aP]
      refine Ao (some 138) 18 (.agg #[iv z.k,iv z.n,bz z.t,.slice az z.l.length cz]) rfl rfl (by kernel_rfl) (fun _ _ _ h=>h) (by intro w hS;(try dsimp only at hS);go_split_ands;go_simp) hS0 ?_
      try simp only[aP]
      refine Ao (some 139) 19 (.agg #[iv x.k,iv x.n,bz x.t,.slice ax x.l.length cx]) rfl rfl (by kernel_rfl) (fun _ _ _ h=>h) (by intro w hS;(try dsimp only at hS);go_split_ands;go_simp) hS0 ?_
      try simp only[aP]
      refine Ac (i:=20) (by kernel_rfl) rfl rfl (fun K hK=>?_);go_simp;refine (hCc _ hb3).mono ?_;rintro e w4 ⟨rfl,hb4⟩;replace hb4:=hb3.trans (hb4.mono hb3.size);obtain⟨f4,-⟩:=Ag hb4;replace hS0:w4.cell? ⟨wr.heap.size,0,none⟩=some (iv x.k)∧w4.cell? ⟨wr.heap.size,1,none⟩=some (iv x.n)∧w4.cell? ⟨wr.heap.size,2,none⟩=some (bz x.t)∧w4.cell? ⟨wr.heap.size,3,none⟩=some (.slice ax x.l.length cx)∧w4.cell? ⟨g,o+m*4,none⟩=some (iv z.k)∧w4.cell? ⟨g,o+m*4+1,none⟩=some (iv z.n)∧w4.cell? ⟨g,o+m*4+2,none⟩=some (bz z.t)∧w4.cell? ⟨g,o+m*4+3,none⟩=some (.slice az z.l.length cz)∧w4.cell? ⟨w.heap.size,3,none⟩=some (sL g o v.l.length cap):=⟨by rw[f4 _ _ hgx];exact x0,by rw[f4 _ _ hgx];exact x1,by rw[f4 _ _ hgx];exact x2,by rw[f4 _ _ hgx];exact x3,by rw[f4 _ _ hgl];exact z0,by rw[f4 _ _ hgl];exact z1,by rw[f4 _ _ hgl];exact z2,by rw[f4 _ _ hgl];exact z3,by rw[f4 _ _ hgl2];exact r3⟩;refine hK _ _ (fun _=>hS0) ?_;clear hK K
      try simp only[aP]
      have hB3:Below w6.heap.size w6 w4:=hB.trans ((hbx.trans (hb4.mono hbx.size)).mono hB.size);have hBw3:Below w.heap.size w w4:=hB6.trans (hB3.mono hB6.size);have hneg:Hid (0<=cmpV z x->shpB (.map k t) v=false):=fun h0=>hno.out (fun h=>by
       have:=h.2.2.2.2 (m / 2) z x (by rw[show 2*(m / 2)=m by omega];exact hz'.out) (by rw[show 2*(m / 2)+2=q by have:=Hmq.out;omega];exact hx'.out);omega)
      have hpos:Hid (cmpV z x<0->MapI pk pv v.l (q+1)):=fun h0=>HA.out.step hx'.out (by rw[if_pos (by have:=Hmq.out;omega)];exact hp) (fun m' z' e h1 hz2=>by
       obtain rfl:m'=m:=by have:=Hmq.out;omega
       rw[hz'.out] at hz2;cases hz2;exact h0)
      clear hCk hCc;generalize cmpV z x=c at *;by_cases hc:c<0
      ·have hcI:¬(0:Int)<=c:=by omega
       have HA2:Hid (MapI pk pv v.l (q+1)):=hpos.out hc;clear hneg hpos HA;refine Ao (some 141) 21 (.bool false) rfl rfl (by kernel_rfl) (fun _ _ _ h=>h) (by intro w hS;(try dsimp only at hS);go_split_ands;go_simp) hS0 ?_
       try simp only[aP]
       refine Ao (some 142) 22 (.bool false) rfl rfl (by kernel_rfl) (fun _ _ _ h=>h) (by intro w hS;(try dsimp only at hS);go_split_ands;go_simp) hS0 ?_
       try simp only[aP]
       refine Ao (some 143) 23 (.bool false) rfl rfl (by kernel_rfl) (fun _ _ _ h=>h) (by intro w hS;(try dsimp only at hS);go_split_ands;go_simp) hS0 ?_
       try simp only[aP]
       refine Am (by kernel_rfl) ?_;clear f3 f4 z0 z1 z2 z3 x0 x1 x2 x3 c0 c1 c2 c3 hWx r3 hw22 hs22 hw23 hS0;simp only[Exit.inBlock,Exit.then];refine ‹∀(a:Act) (w:World),_->_› _ _ ?_;go_wp2_with fail;go_roundg (v.l.length - (q+1))
       case measure=>omega
       case rel=>exact⟨q+1,by omega,rfl,by go_num,HA2,hB3⟩
      ·have hcI:(0:Int)<=c:=by omega
       have hf2:Hid (shpB (.map k t) v=false):=hneg.out hcI;clear hneg hpos HA;refine Ao (some 141) 21 (.bool true) rfl rfl (by kernel_rfl) (fun _ _ _ h=>h) (by intro w hS;(try dsimp only at hS);go_split_ands;go_simp) hS0 ?_
       try simp only[aP]
       refine Ao (some 142) 22 (.bool true) rfl rfl (by kernel_rfl) (fun _ _ _ h=>h) (by intro w hS;(try dsimp only at hS);go_split_ands;go_simp) hS0 ?_
       try simp only[aP]
       refine Ao (some 143) 23 (.bool true) rfl rfl (by kernel_rfl) (fun _ _ _ h=>h) (by intro w hS;(try dsimp only at hS);go_split_ands;go_simp) hS0 ?_
       try simp only[aP]
       refine Am (by kernel_rfl) ?_;clear f3 f4 z0 z1 z2 z3 x0 x1 x2 x3 c0 c1 c2 c3 hWx r3 hw22 hs22 hw23 hS0;simp only[Exit.inBlock,Exit.then];refine ‹∀(a:Act) (w:World),_->_› _ _ ?_;go_wp2;go_ret;exact⟨ret_bool hf2.out.symm,hBw3⟩
  ·have hltI:¬(q:Int)<(v.l.length:Int):=by omega
   have hf2:Hid (shpB (.map k t) v=true):=hfin.out.2 (HA.out.all hok.1 hok.2 (by omega));clear hround hend HA;go_wp2;go_ret;exact⟨ret_bool hf2.out.symm,hBw⟩
end
end Go.Proofs.YtnijcolomoobnaaGreatDoor
