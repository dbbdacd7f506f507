/- Texts of ours, joined. -/
import Derived.Test.YtnijcolomoobnaaGreatDoorU04
import Derived.Test.YtnijcolomoobnaaGreatDoorU03
set_option linter.unusedVariables false
set_option linter.unusedSimpArgs false
set_option maxRecDepth 100000
set_option maxHeartbeats 16000000
namespace Go.Proofs.YtnijcolomoobnaaGreatDoor
section
open Go.RowKit
attribute [local go_sem ↓] Go.wp_at_zero Go.wp_at_succ
theorem Vz{B:Nat->Prop}{k x:V}{ak al:Option Addr}{ck cl i gk gm:Nat}{l:List V}{w:World}(hk:IsW B w k (.slice ak k.l.length ck))(hl:Al B w l (.slice al l.length cl))(hx:l[2*i]?=some x)(hi:l.length<=1000000)
  (k0:w.cell? ⟨gk,0,none⟩=some (iv k.k)) (k1:w.cell? ⟨gk,1,none⟩=some (iv k.n)) (k2:w.cell? ⟨gk,2,none⟩=some (bz k.t)) (k3:w.cell? ⟨gk,3,none⟩=some (.slice ak k.l.length ck)) (m3:w.cell? ⟨gm,3,none⟩=some (.slice al l.length cl)) (hgk:gk<w.heap.size) (hgm:gm<w.heap.size) :
  Calls Tryz.prog 132 #[iv i,pt gk 0,pt gm 0] w fun r w'=>r=.returned (iv (cmpV k x))∧Below w.heap.size w w':=by
 obtain⟨g,o,ax,cx,rfl,_,hg,c0,c1,c2,c3,hw⟩:=hl.get hx;have hlt:=(List.getElem?_eq_some_iff.1 hx).1;have hC:∀w2,Below w.heap.size w w2->Calls Tryz.prog 78 #[.agg #[iv k.k,iv k.n,bz k.t,.slice ak k.l.length ck],.agg #[iv x.k,iv x.n,bz x.t,.slice ax x.l.length cx]] w2 fun r w'=>r=.returned (iv (cmpV k x))∧Below w2.heap.size w2 w':=fun w2 hb=>Cm (hk.below hb) (hw.below hb)
 obtain⟨al',cl',e,a1,a2⟩:=hl.slice;simp only[Value.slice.injEq] at e;obtain⟨-,-,rfl⟩:=e;clear hk hl hw hx;generalize l.length=n at *;obtain⟨m,Hm⟩:∃m:Nat,2*i=m:=⟨_,rfl⟩;have hgo:IntKind.i64.wrap ((2:Int)*(i:Int))=(m:Int):=by rw[IntKind.wrap_i64];omega
 have hgo2:(2:Int)*(i:Int)=(m:Int):=by omega
 have hgo3:IntKind.i64.wrap (m:Int)=(m:Int):=by rw[IntKind.wrap_i64];omega
 have h1:(m:Int)<(n:Int):=by omega
 have h0:(0:Int)<=(m:Int):=by omega
 rw[Hm] at c0 c1 c2 c3 hlt;clear Hm;go_enter Tryz.func132,Tryz.ntmps132;go_wp2_with fail;go_region_held3 (fun w'=>w'.cell? ⟨gk,0,none⟩=some (iv k.k)∧w'.cell? ⟨gk,1,none⟩=some (iv k.n)∧w'.cell? ⟨gk,2,none⟩=some (bz k.t)∧w'.cell? ⟨gk,3,none⟩=some (.slice ak k.l.length ck)∧w'.cell? ⟨gm,3,none⟩=some (sL g o n cl)∧w'.cell? ⟨g,o+m*4,none⟩=some (iv x.k)∧w'.cell? ⟨g,o+m*4+1,none⟩=some (iv x.n)∧w'.cell? ⟨g,o+m*4+2,none⟩=some (bz x.t)∧w'.cell? ⟨g,o+m*4+3,none⟩=some (.slice ax x.l.length cx)) (go_keep)
  ((go_at_call 78;refine (hC _ (Below.refl _ _).drew).mono ?_;rintro e w3 ⟨rfl,hb3⟩;replace hb3:=Ad hb3;obtain⟨f3,-⟩:=Ag hb3))
 clear hC f3 c0 c1 c2 c3 k0 k1 k2 k3 m3;go_wp2;go_ret;exact⟨rfl,hb3⟩
theorem Qk{w:World}{n:Nat}{pk pm:Value}{f:Nat->Int}(hf:∀(i:Nat) (wr:World),i<n->Below w.heap.size w wr->Calls Tryz.prog 132 #[iv i,pk,pm] wr fun r w'=>r=.returned (iv (f i))∧Below wr.heap.size wr w')(hn:n<=1000000) :
  Calls Tryz.prog 131 #[iv n,.func (Fn.func 132) #[] #[pk,pm]] w fun r w'=>(∃i:Nat,i<=n∧(0<i->0<f (i - 1))∧(i<n->f i<=0)∧r=.returned (.tuple #[iv i,.bool (decide (i<n) && decide (f i=0))]))∧Below w.heap.size w w':=by
 go_enter Tryz.func131,Tryz.ntmps131;go_wp2_with fail
 go_loopg [4,6] n (fun g i j wr=>∃a b:Nat,a<=b∧b<=n∧g=b - a∧i=iv a∧j=iv b∧Hid ((0<a->0<f (a - 1))∧(b<n->f b<=0))∧Below w.heap.size w wr)
 case atStart=>exact⟨0,n,Nat.zero_le _,Nat.le_refl _,rfl,rfl,rfl,⟨fun h=>by omega,fun h=>by omega⟩,Below.refl _ _⟩
 case round=>
  obtain⟨a,b,hab,hbn,rfl,rfl,rfl,HA,hB⟩:=hrel;by_cases hlt:a<b
  ·have hltI:(a:Int)<(b:Int):=by omega
   obtain⟨c,Hc⟩:∃c:Nat,(a+b) / 2=c:=⟨_,rfl⟩;have hcn:c<n:=by omega
   have hcall:=hf c wr hcn hB;have hc2:((a:Int)+(b:Int)) / 2=(c:Int):=by omega
   have Hc':Hid ((a+b) / 2=c):=Hc;clear Hc;go_wp2_with fail
   try simp only[hc2]
   refine hcall.mono ?_;rintro e w3 ⟨rfl,hb3⟩;have hB3:Below w.heap.size w w3:=hB.trans (hb3.mono hB.size);clear hcall hc2;by_cases hz:0<f c
   ·have hg:Hid (b - (c+1)<b - a∧c+1<=b):=by have:=Hc'.out;constructor <;> omega
    have HA2:Hid ((0<c+1->0<f (c+1 - 1))∧(b<n->f b<=0)):=⟨fun _=>by simpa using hz,HA.out.2⟩;generalize f c=z at *;go_wp2_with fail;go_roundg (b - (c+1))
    case measure=>exact hg.out.1
    case rel=>exact⟨c+1,b,hg.out.2,hbn,rfl,by go_num,rfl,HA2,hB3⟩
   ·have hg:Hid (c - a<b - a∧a<=c):=by have:=Hc'.out;constructor <;> omega
    have HA2:Hid ((0<a->0<f (a - 1))∧(c<n->f c<=0)):=⟨HA.out.1,fun _=>by omega⟩;obtain⟨z,hzz⟩:∃z,Hid (f c=z):=⟨_,rfl⟩;rw[hzz.out] at hz ⊢;go_wp2_with fail;go_roundg (c - a)
    case measure=>exact hg.out.1
    case rel=>exact⟨a,c,hg.out.2,by omega,rfl,rfl,rfl,HA2,hB3⟩
  ·have hltI:¬(a:Int)<(b:Int):=by omega
   obtain rfl:a=b:=by omega
   by_cases han:a<n
   ·have hanI:(a:Int)<(n:Int):=by omega
    have hcall:=hf a wr han hB;have hfin:Hid (a<=n∧(0<a->0<f (a - 1))∧(a<n->f a<=0)):=⟨hbn,HA.out.1,HA.out.2⟩;clear hf HA;go_wp2_with fail;refine hcall.mono ?_;rintro e w3 ⟨rfl,hb3⟩;have hB3:Below w.heap.size w w3:=hB.trans (hb3.mono hB.size);clear hcall;obtain⟨z,hz⟩:∃z,Hid (f a=z):=⟨_,rfl⟩;rw[hz.out];go_wp2
    go_ret2
    exact⟨⟨a,hfin.out.1,hfin.out.2.1,hfin.out.2.2,by rw[hz.out];by_cases h:z=0 <;> simp[han,h]⟩,hB3⟩
   ·have hanI:¬(a:Int)<(n:Int):=by omega
    have hfin:Hid (a<=n∧(0<a->0<f (a - 1))∧(a<n->f a<=0)):=⟨hbn,HA.out.1,HA.out.2⟩;clear hf HA;go_wp2
    go_ret2
    exact⟨⟨a,hfin.out.1,hfin.out.2.1,hfin.out.2.2,by simp[han]⟩,hB⟩
end
section
open Go.RowKit
theorem K3{B:Nat->Prop}{v:V}{ao:Option Addr}{cap:Nat}{w:World}(hv:IsW B w v (.slice ao v.l.length cap)):Calls Tryz.prog 128 #[.agg #[iv v.k,iv v.n,bz v.t,.slice ao v.l.length cap]] w fun r w'=>r=.returned (iv ((v.l.length / 2:Nat):Int))∧Below w.heap.size w w':=by
 obtain⟨ao',cap',e,c1,c2⟩:=hv.vs.slice;simp only[Value.slice.injEq] at e;obtain⟨rfl,-,rfl⟩:=e;obtain⟨w0,hW,hb0,hsz,d0,d1,d2,d3⟩:=Aw w v (.slice ao v.l.length cap);clear hv;go_enter Tryz.func128,Tryz.ntmps128;go_wp2;go_ret;exact⟨ret_int (by omega),hb0⟩
theorem Ql{k:V}{l:List V}(he:l.length % 2=0)(hr:Cy l){i:Nat}(hi:i<=l.length / 2)(h1:0<i->0<cmpV k (l.getD (2*(i - 1)) V.zero))(h2:i<l.length / 2->cmpV k (l.getD (2*i) V.zero)<=0) :
  i=kat k l∧(decide (i<l.length / 2) && decide (cmpV k (l.getD (2*i) V.zero)=0))=hit k l:=by
 have hk:kat k l=i:=by
  refine Lz hr (by omega) (fun a h0 ha=>?_) (fun a h0 ha=>?_) he
  ·have:=h1 h0;rw[List.getD_eq_getElem?_getD,ha] at this;have h3:=Dm a k;simp at this;omega
  ·have:=h2 (by omega);rw[List.getD_eq_getElem?_getD,ha] at this;have h3:=Dm a k;simp at this;omega
 refine⟨hk.symm,?_⟩;unfold hit;rw[hk];by_cases h:i<l.length / 2
 ·have hlt:2*i<l.length:=by omega
  rw[List.getD_eq_getElem?_getD,List.getElem?_eq_getElem hlt];simp[h]
 ·rw[List.getElem?_eq_none (by omega)];simp[h]
theorem Ga{B:Nat->Prop}{v k:V}{ao ak:Option Addr}{cap ck:Nat}{w:World}(hv:IsW B w v (.slice ao v.l.length cap))(hk:IsW B w k (.slice ak k.l.length ck))(hn:v.l.length<=1000000)(he:v.l.length % 2=0)(hr:Cy v.l) :
  Calls Tryz.prog 99 #[.agg #[iv v.k,iv v.n,bz v.t,.slice ao v.l.length cap],.agg #[iv k.k,iv k.n,bz k.t,.slice ak k.l.length ck]] w fun r w'=>r=.returned (.tuple #[iv (2*kat k v.l:Nat),.bool (hit k v.l)])∧Below w.heap.size w w':=by
 obtain⟨w0,w1,hW,hW1,hs0,hs1,hB,d0,d1,d2,d3,e0,e1,e2,e3⟩:=Dn w v (.slice ao v.l.length cap) k (.slice ak k.l.length ck);have hP:=K3 (hv.below hB);have hF:∀w2,Below w1.heap.size w1 w2->Calls Tryz.prog 131 #[iv (v.l.length / 2:Nat),.func (Fn.func 132) #[] #[pt (w.heap.size+1) 0,pt w.heap.size 0]] w2 fun r w'=>r=.returned (.tuple #[iv (kat k v.l),.bool (hit k v.l)])∧Below w2.heap.size w2 w':=by
  intro w2 hb2;have hs2:=hb2.size;refine (Qk (f:=fun i=>cmpV k (v.l.getD (2*i) V.zero)) (fun i wr hi hbr=>?_) (by omega)).mono ?_
  ·have hb:Below w1.heap.size w1 wr:=hb2.trans (hbr.mono hs2);have hbw:Below w.heap.size w wr:=hB.trans (hb.mono hB.size);have hsr:=hb.size;have hlt:2*i<v.l.length:=by omega
   obtain⟨f1,-⟩:=Ag hb;exact Vz (hk.below hbw) (hv.vs.below hbw) (by rw[List.getD_eq_getElem?_getD,List.getElem?_eq_getElem hlt];rfl) hn ((f1 _ _ (by omega)).trans e0) ((f1 _ _ (by omega)).trans e1) ((f1 _ _ (by omega)).trans e2) ((f1 _ _ (by omega)).trans e3) ((f1 _ _ (by omega)).trans d3) (by omega) (by omega)
  ·rintro e w' ⟨⟨i,hi,h1,h2,rfl⟩,hb'⟩;obtain⟨rfl,h4⟩:=Ql he hr hi h1 h2;exact⟨by rw[h4],hb'⟩
 have hle:=Ez k v.l;clear hv hk;generalize kat k v.l=q at *;generalize hit k v.l=t at *;generalize hL:v.l.length / 2=m at *;go_enter Tryz.func99,Tryz.ntmps99;go_wp2_with fail;refine hP.mono ?_;rintro e w2 ⟨rfl,hb2⟩;clear hP;have hF2:=hF w2 hb2;clear hF;go_wp2_with fail;refine hF2.mono ?_;rintro e w3 ⟨rfl,hb3⟩;have hB3:Below w.heap.size w w3:=hB.trans ((hb2.trans (hb3.mono hb2.size)).mono hB.size);clear hF2;go_wp2
 go_ret2
 exact⟨by congr 3,hB3⟩
end
section
open Go.RowKit
attribute [local go_sem ↓] Go.wp_at_zero Go.wp_at_succ
theorem Bv{k k':IntKind}{a b c d:Int}(h:a=b)(h':c=d):Ending.returned (.tuple #[.int k a,.int k' c])=.returned (.tuple #[.int k b,.int k' d]):=by rw[h,h']
theorem J5{B:Nat->Prop}{v k:V}{ao ak:Option Addr}{cap ck:Nat}{w:World}(hv:IsW B w v (.slice ao v.l.length cap))(hk:IsW B w k (.slice ak k.l.length ck))(hn:v.l.length<=1000000)(ht:Et v) :
  Calls Tryz.prog 95 #[.agg #[iv v.k,iv v.n,bz v.t,.slice ao v.l.length cap],.agg #[iv k.k,iv k.n,bz k.t,.slice ak k.l.length ck]] w fun r w'=>r=.returned (.tuple #[iv ((plV v k).1:Nat),iv (plV v k).2])∧Below w.heap.size w w':=by
 obtain⟨w0,w1,hW,hW1,hs0,hs1,hB,d0,d1,d2,d3,e0,e1,e2,e3⟩:=Dn w v (.slice ao v.l.length cap) k (.slice ak k.l.length ck);by_cases h4:v.k=4
 ·by_cases k1:k.k=1
  ·have hk4:(v.k == 4)=true:=by simp[h4]
   have hk1:(k.k == 1)=true:=by simp[k1]
   have hfin:plV v k=if 0<=k.n∧k.n<v.l.length then (k.n.toNat,0) else (0,52):=by unfold plV;rw[if_pos ⟨h4,k1⟩]
   have hkr:=hk.nr;clear hv hk;rw[h4] at d0 hW;rw[k1] at e0 hW1;by_cases a1:0<=k.n
   ·by_cases a2:k.n<(v.l.length:Int)
    ·rw[if_pos ⟨a1,a2⟩] at hfin;have hfin':Hid (plV v k=(k.n.toNat,0)):=hfin;clear hfin;go_enter Tryz.func95,Tryz.ntmps95;go_wp2_with fail
     go_quiet (fail)
     go_wp2
     go_ret2
     exact⟨by rw[hfin'.out];exact Bv (by simp;omega) rfl,hB.trans ((Af _ _).mono hB.size)⟩
    ·rw[if_neg (fun h=>a2 h.2)] at hfin;have hfin':Hid (plV v k=(0,52)):=hfin;have hd1:decide (0<=k.n)=true:=by simp[a1]
     have hd2:decide (k.n<(v.l.length:Int))=false:=by simp;omega
     clear hfin;go_enter Tryz.func95,Tryz.ntmps95;go_wp2_with fail
     go_quiet (fail)
     go_wp2
     go_ret2
     exact⟨by rw[hfin'.out];exact Bv rfl rfl,hB.trans ((Af _ _).mono hB.size)⟩
   ·rw[if_neg (fun h=>a1 h.1)] at hfin;have hfin':Hid (plV v k=(0,52)):=hfin;have hd1:decide (0<=k.n)=false:=by simp;omega
    clear hfin;go_enter Tryz.func95,Tryz.ntmps95;go_wp2_with fail
    go_quiet (fail)
    go_wp2
    go_ret2
    exact⟨by rw[hfin'.out];exact Bv rfl rfl,hB.trans ((Af _ _).mono hB.size)⟩
  ·have hfin:Hid (plV v k=(0,40)):=by show _=_;unfold plV;rw[if_neg (fun h=>k1 h.2),if_neg (by omega)]
   have hk4:(v.k == 4)=true:=by simp[h4]
   have hk5:(v.k == 5)=false:=by simp;omega
   have hk1:(k.k == 1)=false:=by simp[k1]
   clear hv hk h4;go_enter Tryz.func95,Tryz.ntmps95;go_wp2
   go_ret2
   exact⟨by rw[hfin.out];exact Bv rfl rfl,hB⟩
 ·have hk4:(v.k == 4)=false:=by simp[h4]
  by_cases h5:v.k=5
  ·have hk5:(v.k == 5)=true:=by simp[h5]
   obtain⟨t1,t2⟩:=ht h5;have hF:=Ga (hv.below hB) (hk.below hB) hn t1 t2;have hfin:Hid (plV v k=if hit k v.l=true then (2*kat k v.l+1,0) else (0,52)):=by show _=_;unfold plV;rw[if_neg (fun h=>h4 h.1),if_pos h5]
   have hle:=Ez k v.l;clear hv hk h5;generalize kat k v.l=q at *;generalize hit k v.l=t at *;go_enter Tryz.func95,Tryz.ntmps95;go_wp2_with fail;refine hF.mono ?_;rintro e w2 ⟨rfl,hb2⟩;have hB2:Below w.heap.size w w2:=hB.trans (hb2.mono hB.size);clear hF;cases t
   ·go_wp2
    go_ret2
    exact⟨by rw[hfin.out];exact Bv rfl rfl,hB2⟩
   ·go_wp2
    go_ret2
    exact⟨by rw[hfin.out];exact Bv (by simp) rfl,hB2⟩
  ·have hk5:(v.k == 5)=false:=by simp[h5]
   have hfin:Hid (plV v k=(0,40)):=by show _=_;unfold plV;rw[if_neg (fun h=>h4 h.1),if_neg h5]
   clear hv hk;go_enter Tryz.func95,Tryz.ntmps95;go_wp2
   go_ret2
   exact⟨by rw[hfin.out];exact Bv rfl rfl,hB⟩
theorem V0{B:Nat->Prop}{v k:V}{ao ak:Option Addr}{cap ck:Nat}{w:World}(hv:IsW B w v (.slice ao v.l.length cap))(hk:IsW B w k (.slice ak k.l.length ck))(hn:v.l.length<=1000000)(ht:Et v) :
  Calls Tryz.prog 93 #[.agg #[iv v.k,iv v.n,bz v.t,.slice ao v.l.length cap],.agg #[iv k.k,iv k.n,bz k.t,.slice ak k.l.length ck]] w fun r w'=>r=.returned (.tuple #[.bool (decide (v.k=5) && hit k v.l),iv (if v.k=5 then 0 else 40)])∧Below w.heap.size w w':=by
 obtain⟨w0,w1,hW,hW1,hs0,hs1,hB,d0,d1,d2,d3,e0,e1,e2,e3⟩:=Dn w v (.slice ao v.l.length cap) k (.slice ak k.l.length ck);by_cases h5:v.k=5
 ·have hk5:(v.k != 5)=false:=by simp[h5]
  obtain⟨t1,t2⟩:=ht h5;have hF:=Ga (hv.below hB) (hk.below hB) hn t1 t2;have hfin:Hid (v.k=5):=h5;clear hv hk h5;generalize kat k v.l=q at *;generalize hit k v.l=t at *;go_enter Tryz.func93,Tryz.ntmps93;go_wp2_with fail;refine hF.mono ?_;rintro e w2 ⟨rfl,hb2⟩;have hB2:Below w.heap.size w w2:=hB.trans (hb2.mono hB.size);clear hF;go_wp2
  go_ret2
  exact⟨by simp[hfin.out],hB2⟩
 ·have hk5:(v.k != 5)=true:=by simp[h5]
  clear hv hk;go_enter Tryz.func93,Tryz.ntmps93;go_wp2
  go_ret2
  exact⟨by simp[h5],hB⟩
theorem V1{B:Nat->Prop}{v:V}{ao:Option Addr}{cap:Nat}{w:World}(hv:IsW B w v (.slice ao v.l.length cap)) :
  Calls Tryz.prog 89 #[.agg #[iv v.k,iv v.n,bz v.t,.slice ao v.l.length cap]] w fun r w'=>r=.returned (.tuple #[iv ((Bp v).1:Nat),iv (Bp v).2])∧Below w.heap.size w w':=by
 obtain⟨w0,hW,hb0,hsz,d0,d1,d2,d3⟩:=Aw w v (.slice ao v.l.length cap);have hP:=K3 (hv.below hb0);have htx:=hv.txt;clear hv;by_cases h3:v.k=3
 ·have hk3:(v.k == 3)=true:=by simp[h3]
  have hfin:Hid (Bp v=(v.t.length,0)):=by show _=_;unfold Bp;rw[if_pos h3]
  clear hP h3;go_enter Tryz.func89,Tryz.ntmps89;go_wp2
  go_ret2
  exact⟨by rw[hfin.out];exact Bv (by simp) rfl,hb0⟩
 ·have hk3:(v.k == 3)=false:=by simp[h3]
  by_cases h4:v.k=4
  ·have hk4:(v.k == 4)=true:=by simp[h4]
   have hfin:Hid (Bp v=(v.l.length,0)):=by show _=_;unfold Bp;rw[if_neg h3,if_pos h4]
   clear hP h4;go_enter Tryz.func89,Tryz.ntmps89;go_wp2
   go_ret2
   exact⟨by rw[hfin.out];exact Bv (by simp) rfl,hb0⟩
  ·have hk4:(v.k == 4)=false:=by simp[h4]
   by_cases h5:v.k=5
   ·have hk5:(v.k == 5)=true:=by simp[h5]
    have hfin:Hid (Bp v=(v.l.length / 2,0)):=by show _=_;unfold Bp;rw[if_neg h3,if_neg h4,if_pos h5]
    clear h5;generalize hL:v.l.length / 2=m at *;go_enter Tryz.func89,Tryz.ntmps89;go_wp2_with fail;refine hP.mono ?_;rintro e w2 ⟨rfl,hb2⟩;have hB2:Below w.heap.size w w2:=hb0.trans (hb2.mono hb0.size);clear hP;go_wp2
    go_ret2
    exact⟨by rw[hfin.out];exact Bv rfl rfl,hB2⟩
   ·have hk5:(v.k == 5)=false:=by simp[h5]
    have hfin:Hid (Bp v=(0,40)):=by show _=_;unfold Bp;rw[if_neg h3,if_neg h4,if_neg h5]
    clear hP;go_enter Tryz.func89,Tryz.ntmps89;go_wp2
    go_ret2
    exact⟨by rw[hfin.out];exact Bv rfl rfl,hb0⟩
end
end Go.Proofs.YtnijcolomoobnaaGreatDoor
