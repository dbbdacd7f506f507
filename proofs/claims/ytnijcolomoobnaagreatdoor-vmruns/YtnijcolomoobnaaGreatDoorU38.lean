/- Texts of ours, joined. -/
import Derived.Test.YtnijcolomoobnaaGreatDoorU36
import Derived.Test.YtnijcolomoobnaaGreatDoorU34
set_option linter.unusedVariables false
set_option linter.unusedSimpArgs false
set_option maxRecDepth 100000
set_option maxHeartbeats 16000000
namespace Go.Proofs.YtnijcolomoobnaaGreatDoor
section
open Go.RowKit
attribute [local go_sem ↓] Go.wp_at_zero Go.wp_at_succ
theorem Yl{b:Bool}{w:World}{B:Nat->Prop}:IsW B w (bV' b) sZ:=by
 refine⟨by show (0:Nat)<=maxLen;omega,by unfold InR;show _<=(2:Int)∧(2:Int)<=_;omega,?_,Al.nil⟩;unfold InR;show _<=(if b=true then (1:Int) else 0)∧(if b=true then (1:Int) else 0)<=_;cases b <;> simp
theorem Ym{n:Int}(h:InR n){w:World}{B:Nat->Prop}:IsW B w (nV n) sZ:=⟨by show (0:Nat)<=maxLen;omega,by unfold InR;show _<=(1:Int)∧(1:Int)<=_;omega,h,Al.nil⟩
theorem X8{B:Nat->Prop}{p:Nat}{cs fs ss:Value}{fl a:Int}{av:Option Addr}{cv:Nat}{w:World}{base:Nat}(hbase:base<=w.heap.size)(ht:Cj base w)(hm:Mc p w cs fs ss fl 0){x0:V}(hv:Al B w [x0] (.slice av 1 cv))(s0:Snd x0) :
  Calls Tryz.prog 75 #[pt p 0,.agg #[iv 16,iv a],.slice av 1 cv] w fun r w'=>RMk p cs fs ss fl (strV (it15 x0.n) x0) w r w':=by
 obtain⟨g,o,ax,cx,rfl,_,hg,c00,c01,c02,c03,hw0⟩:=hv.get (i:=0) (x:=x0) rfl;obtain⟨wa,wb,wz,wc,hWa,hWb,hWz,hWc,lz,hxz,la,lb,lc,hbc,i0,z6,z7⟩:=Fl w 16 a;obtain⟨y0,y1,y2,y3,v0,v1,v2,v3⟩:=Aa hxz;obtain⟨f,-⟩:=Ag hbc;obtain⟨j0,j1,-,-,hlj⟩:=Ae i0;obtain⟨n0,n1,n2,n3,t0,t1,t2,t3⟩:=Aa z7;have hgc:g<wc.heap.size:=Nat.lt_of_lt_of_le hg hbc.size;have u1:g≠wb.heap.size:=by omega
 have u2:wb.heap.size≠g:=by omega
 have u3:w.heap.size≠wb.heap.size:=by omega
 have u4:wb.heap.size≠w.heap.size:=by omega
 have d00:wc.cell? ⟨g,o,none⟩=_:=(f g (o) hg).trans c00;have d01:wc.cell? ⟨g,o+1,none⟩=_:=(f g (o+1) hg).trans c01;have d02:wc.cell? ⟨g,o+2,none⟩=_:=(f g (o+2) hg).trans c02;have d03:wc.cell? ⟨g,o+3,none⟩=_:=(f g (o+3) hg).trans c03;clear f c00 c01 c02 c03;have hC:∀w2,Below wc.heap.size wc w2->Calls Tryz.prog 109 #[.agg #[iv x0.k,iv x0.n,bz x0.t,.slice ax x0.l.length cx]] w2 fun r w'=>Br w2 (strV (it15 x0.n) x0) r w':=fun w2 hb=>((Ux (by have:=hbc.size;have:=hb.size;omega) (ht.mono ((hbc.trans (hb.mono hbc.size)).mono hbase)) hw0.nr).mono fun r w1 h=>h.out (Ir x0).1 (Ir x0).2.1 (Ir x0).2.2.1 (Ir x0).2.2.2)
 generalize strV (it15 x0.n) x0=ov at *;clear hw0 s0 hv i0 hxz ht hbase;go_enter Tryz.func75,Tryz.ntmps75;go_wp2_with fail;refine (hC wc (Below.refl _ _)).mono ?_;rintro r w5 ⟨⟨ao,cap,rfl,hx⟩,hb5⟩;clear hC n0 n1 n2 n3 t0 t1 t2 t3;obtain⟨w6,w8,hW6,hTr,h7,m0,m1,m2,m3,hl8,hfin⟩:=Ch hm (by omega) lb lc hbc hb5 z6 z7 hx;obtain⟨n0,n1,n2,n3,t0,t1,t2,t3⟩:=Aa ((hb5.block _ lc).trans z7);have l7:wb.heap.size<w5.heap.size:=Nat.lt_of_lt_of_le lc hb5.size;clear z6 z7 hx hb5 j0 j1 d00 d01 d02 d03;go_wp2_with fail;refine hTr.mono ?_;rintro r w7 ⟨rfl,hw7⟩;obtain⟨a0,a1,a2,a3,b0,b1,b2,b3,k0,k1,k2,k3,l6,l7',hW8⟩:=h7 w7 hw7;clear h7 hw7 hTr;go_wp2_with fail;exact bodyPost_ret (v:=.agg #[iv ov.1.k,iv ov.1.n,.string ⟨ov.1.t.toArray⟩,.slice ao ov.1.l.length cap]) (by simp[results,Tryz.results75,go_sem,hl8,m0,m1,m2,m3]) rfl hfin
theorem X9{B:Nat->Prop}{p:Nat}{cs fs ss:Value}{fl a:Int}{av:Option Addr}{cv:Nat}{w:World}(hm:Mc p w cs fs ss fl 0){x0:V}(hv:Al B w [x0] (.slice av 1 cv)) :
  Calls Tryz.prog 75 #[pt p 0,.agg #[iv 14,iv a],.slice av 1 cv] w fun r w'=>RMk p cs fs ss fl (bV' (decide (x0.n=0)),if x0.k=2 then 0 else 40) w r w':=by
 obtain⟨g,o,ax,cx,rfl,_,hg,c00,c01,c02,c03,hw0⟩:=hv.get (i:=0) (x:=x0) rfl;obtain⟨wa,wb,wz,wc,hWa,hWb,hWz,hWc,lz,hxz,la,lb,lc,hbc,i0,z6,z7⟩:=Fl w 14 a;obtain⟨y0,y1,y2,y3,v0,v1,v2,v3⟩:=Aa hxz;obtain⟨f,-⟩:=Ag hbc;obtain⟨j0,j1,-,-,hlj⟩:=Ae i0;obtain⟨n0,n1,n2,n3,t0,t1,t2,t3⟩:=Aa z7;have hgc:g<wc.heap.size:=Nat.lt_of_lt_of_le hg hbc.size;have u1:g≠wb.heap.size:=by omega
 have u2:wb.heap.size≠g:=by omega
 have u3:w.heap.size≠wb.heap.size:=by omega
 have u4:wb.heap.size≠w.heap.size:=by omega
 have d00:wc.cell? ⟨g,o,none⟩=_:=(f g (o) hg).trans c00;have d01:wc.cell? ⟨g,o+1,none⟩=_:=(f g (o+1) hg).trans c01;have d02:wc.cell? ⟨g,o+2,none⟩=_:=(f g (o+2) hg).trans c02;have d03:wc.cell? ⟨g,o+3,none⟩=_:=(f g (o+3) hg).trans c03;clear f c00 c01 c02 c03;obtain⟨z,hz⟩:∃z:Int,Hid ((if decide (x0.n=0)=true then (1:Int) else 0)=z):=⟨_,rfl⟩;have hbv:bV' (decide (x0.n=0))=.mk 2 z [] []:=by rw[<-hz.out]
 have hzw:∀(B:Nat->Prop) (w:World),IsW B w (.mk 2 z [] []) sZ:=fun B w=>by rw[<-hbv];exact Yl
 have hC:=fun w2=>Cp (decide (x0.n=0)) w2
 rw[hz.out] at hC;rw[hbv];clear hbv;by_cases hk:x0.k=2
 ·have hkb:(x0.k != 2)=false:=by simp[hk]
  rw[if_pos hk];clear hw0 hv i0 hxz;go_enter Tryz.func75,Tryz.ntmps75;go_wp2_with fail;refine (hC wc).mono ?_;rintro r w5 ⟨rfl,hb5⟩;clear hC n0 n1 n2 n3 t0 t1 t2 t3;have hx:IsW (From wc.heap.size) w5 (V.mk 2 z [] [],(0:Int)).1 (.slice none (V.mk 2 z [] [],(0:Int)).1.l.length 0):=hzw _ _;obtain⟨w6,w8,hW6,hTr,h7,m0,m1,m2,m3,hl8,hfin⟩:=Ch (o:=(V.mk 2 z [] [],(0:Int))) hm (by omega) lb lc hbc hb5 z6 z7 hx;obtain⟨n0,n1,n2,n3,t0,t1,t2,t3⟩:=Aa ((hb5.block _ lc).trans z7);have l7:wb.heap.size<w5.heap.size:=Nat.lt_of_lt_of_le lc hb5.size;simp only[V.k,V.n,V.t,V.l,List.length_nil] at hW6 hTr h7 m0 m1 m2 m3;clear z6 z7 hb5 j0 j1 d00 d01 d02 d03 hx;go_wp2_with fail;refine hTr.mono ?_;rintro r w7 ⟨rfl,hw7⟩;obtain⟨a0,a1,a2,a3,b0,b1,b2,b3,k0,k1,k2,k3,l6,l7',hW8⟩:=h7 w7 hw7;clear h7 hw7 hTr;go_wp2_with fail;exact bodyPost_ret (v:=.agg #[iv 2,iv z,.string ⟨#[]⟩,sZ]) (by simp[results,Tryz.results75,go_sem,hl8,m0,m1,m2,m3]) rfl hfin
 ·have hkb:(x0.k != 2)=true:=by simpa using hk
  rw[if_neg hk];clear hw0 hv i0 hxz;go_enter Tryz.func75,Tryz.ntmps75;go_wp2_with fail;refine (hC wc).mono ?_;rintro r w5 ⟨rfl,hb5⟩;clear hC n0 n1 n2 n3 t0 t1 t2 t3;have hx:IsW (From wc.heap.size) w5 (V.mk 2 z [] [],(40:Int)).1 (.slice none (V.mk 2 z [] [],(40:Int)).1.l.length 0):=hzw _ _;obtain⟨w6,w8,hW6,hTr,h7,m0,m1,m2,m3,hl8,hfin⟩:=Ch (o:=(V.mk 2 z [] [],(40:Int))) hm (by omega) lb lc hbc hb5 z6 z7 hx;obtain⟨n0,n1,n2,n3,t0,t1,t2,t3⟩:=Aa ((hb5.block _ lc).trans z7);have l7:wb.heap.size<w5.heap.size:=Nat.lt_of_lt_of_le lc hb5.size;simp only[V.k,V.n,V.t,V.l,List.length_nil] at hW6 hTr h7 m0 m1 m2 m3;clear z6 z7 hb5 j0 j1 d00 d01 d02 d03 hx;go_wp2_with fail;refine hTr.mono ?_;rintro r w7 ⟨rfl,hw7⟩;obtain⟨a0,a1,a2,a3,b0,b1,b2,b3,k0,k1,k2,k3,l6,l7',hW8⟩:=h7 w7 hw7;clear h7 hw7 hTr;go_wp2_with fail;exact bodyPost_ret (v:=.agg #[iv 2,iv z,.string ⟨#[]⟩,sZ]) (by simp[results,Tryz.results75,go_sem,hl8,m0,m1,m2,m3]) rfl hfin
theorem Ya{v:V}(h:Snd v):InR ((Bp v).1:Nat):=by
 have h1:=h.1;have h0:=Bw v;have h2:=A4 v.l;have hb:(Bp v).1<=16384:=by
  unfold Bp;by_cases h3:v.k=3
  ·rw[if_pos h3];show v.t.length<=_;omega
  rw[if_neg h3];by_cases h4:v.k=4
  ·rw[if_pos h4];show v.l.length<=_;omega
  rw[if_neg h4];by_cases h5:v.k=5
  ·rw[if_pos h5];show v.l.length / 2<=_;omega
  rw[if_neg h5];exact Nat.zero_le _
 unfold InR;omega
theorem Yb{B:Nat->Prop}{p:Nat}{cs fs ss:Value}{fl a:Int}{av:Option Addr}{cv:Nat}{w:World}(hm:Mc p w cs fs ss fl 0){x0:V}(hv:Al B w [x0] (.slice av 1 cv))(s0:Snd x0) :
  Calls Tryz.prog 75 #[pt p 0,.agg #[iv 15,iv a],.slice av 1 cv] w fun r w'=>RMk p cs fs ss fl (nV ((Bp x0).1:Nat),(Bp x0).2) w r w':=by
 obtain⟨g,o,ax,cx,rfl,_,hg,c00,c01,c02,c03,hw0⟩:=hv.get (i:=0) (x:=x0) rfl;obtain⟨wa,wb,wz,wc,hWa,hWb,hWz,hWc,lz,hxz,la,lb,lc,hbc,i0,z6,z7⟩:=Fl w 15 a;obtain⟨y0,y1,y2,y3,v0,v1,v2,v3⟩:=Aa hxz;obtain⟨f,-⟩:=Ag hbc;obtain⟨j0,j1,-,-,hlj⟩:=Ae i0;obtain⟨n0,n1,n2,n3,t0,t1,t2,t3⟩:=Aa z7;have hgc:g<wc.heap.size:=Nat.lt_of_lt_of_le hg hbc.size;have u1:g≠wb.heap.size:=by omega
 have u2:wb.heap.size≠g:=by omega
 have u3:w.heap.size≠wb.heap.size:=by omega
 have u4:wb.heap.size≠w.heap.size:=by omega
 have d00:wc.cell? ⟨g,o,none⟩=_:=(f g (o) hg).trans c00;have d01:wc.cell? ⟨g,o+1,none⟩=_:=(f g (o+1) hg).trans c01;have d02:wc.cell? ⟨g,o+2,none⟩=_:=(f g (o+2) hg).trans c02;have d03:wc.cell? ⟨g,o+3,none⟩=_:=(f g (o+3) hg).trans c03;clear f c00 c01 c02 c03;have hL:∀w2,Below wc.heap.size wc w2->Calls Tryz.prog 108 #[.agg #[iv x0.k,iv x0.n,bz x0.t,.slice ax x0.l.length cx]] w2 fun r w'=>r=.returned (.tuple #[iv ((Bp x0).1:Nat),iv (Bp x0).2])∧Below w2.heap.size w2 w':=fun w2 hb=>Ut (hw0.below (hbc.trans (hb.mono hbc.size)))
 have hr:InR ((Bp x0).1:Nat):=Ya s0;generalize (((Bp x0).1:Nat):Int)=n at *;generalize (Bp x0).2=e at *;clear hw0 hv i0 hxz s0;go_enter Tryz.func75,Tryz.ntmps75;go_wp2_with fail;refine (hL wc (Below.refl _ _)).mono ?_;rintro r w4 ⟨rfl,hb4⟩;clear hL;go_wp2_with fail;refine (B7 n w4).mono ?_;rintro r w5 ⟨rfl,hb5'⟩;have hb5:Below wc.heap.size wc w5:=hb4.trans (hb5'.mono hb4.size);clear n0 n1 n2 n3 t0 t1 t2 t3;have hx:IsW (From wc.heap.size) w5 (nV n,e).1 (.slice none (nV n,e).1.l.length 0):=Ym hr;obtain⟨w6,w8,hW6,hTr,h7,m0,m1,m2,m3,hl8,hfin⟩:=Ch (o:=(nV n,e)) hm (by omega) lb lc hbc hb5 z6 z7 hx;obtain⟨n0,n1,n2,n3,t0,t1,t2,t3⟩:=Aa ((hb5.block _ lc).trans z7);have l7:wb.heap.size<w5.heap.size:=Nat.lt_of_lt_of_le lc hb5.size;simp only[V.k,V.n,V.t,V.l,List.length_nil] at hW6 hTr h7 m0 m1 m2 m3;clear z6 z7 hb5 j0 j1 d00 d01 d02 d03 hx hb4 hb5';go_wp2_with fail;refine hTr.mono ?_;rintro r w7 ⟨rfl,hw7⟩;obtain⟨a0,a1,a2,a3,b0,b1,b2,b3,k0,k1,k2,k3,l6,l7',hW8⟩:=h7 w7 hw7;clear h7 hw7 hTr;go_wp2_with fail;exact bodyPost_ret (v:=.agg #[iv 1,iv n,.string ⟨#[]⟩,sZ]) (by simp[results,Tryz.results75,go_sem,hl8,m0,m1,m2,m3]) rfl hfin
theorem Gu{P:Program}{md:Region.Mode}{ops:Array Oper}{Q:Exit->Act->World->Prop}{S:World->Prop}{N:Nat->Bool}{f:Nat}{l0:Array Bool}{a0:Act}{w:World}(h:∀a l,a=a0->l=l0->wpE P md ops Q S N f l a w):wpE P md ops Q S N f l0 a0 w:=h a0 l0 rfl rfl
theorem Yc{B:Nat->Prop}{p:Nat}{cs fs ss:Value}{fl a:Int}{av:Option Addr}{cv:Nat}{w:World}(hm:Mc p w cs fs ss fl 0){x0 x1:V}(hv:Al B w [x0,x1] (.slice av 2 cv))(s0:Snd x0)(s1:Snd x1) :
  Calls Tryz.prog 75 #[pt p 0,.agg #[iv 17,iv a],.slice av 2 cv] w fun r w'=>RMk p cs fs ss fl (bV' (decide ((atV x0 x1).2=0)),if x0.k=5 then 0 else 40) w r w':=by
 obtain⟨g,o,ax,cx,rfl,_,hg,c00,c01,c02,c03,hw0⟩:=hv.get (i:=0) (x:=x0) rfl;obtain⟨g1,o1,ay,cy,e1,_,-,c10,c11,c12,c13,hw1⟩:=hv.get (i:=1) (x:=x1) rfl;simp only[Option.some.injEq,Addr.mk.injEq,and_true] at e1;obtain⟨rfl,rfl⟩:=e1;obtain⟨wa,wb,wz,wc,hWa,hWb,hWz,hWc,lz,hxz,la,lb,lc,hbc,i0,z6,z7⟩:=Fl w 17 a;obtain⟨y0,y1,y2,y3,v0,v1,v2,v3⟩:=Aa hxz;obtain⟨f,-⟩:=Ag hbc;obtain⟨j0,j1,-,-,hlj⟩:=Ae i0;obtain⟨n0,n1,n2,n3,t0,t1,t2,t3⟩:=Aa z7;have hgc:g<wc.heap.size:=Nat.lt_of_lt_of_le hg hbc.size;have u1:g≠wb.heap.size:=by omega
 have u2:wb.heap.size≠g:=by omega
 have u3:w.heap.size≠wb.heap.size:=by omega
 have u4:wb.heap.size≠w.heap.size:=by omega
 have d00:wc.cell? ⟨g,o,none⟩=_:=(f g (o) hg).trans c00;have d01:wc.cell? ⟨g,o+1,none⟩=_:=(f g (o+1) hg).trans c01;have d02:wc.cell? ⟨g,o+2,none⟩=_:=(f g (o+2) hg).trans c02;have d03:wc.cell? ⟨g,o+3,none⟩=_:=(f g (o+3) hg).trans c03;have d10:wc.cell? ⟨g,o+4,none⟩=_:=(f g (o+4) hg).trans c10;have d11:wc.cell? ⟨g,o+5,none⟩=_:=(f g (o+5) hg).trans c11;have d12:wc.cell? ⟨g,o+6,none⟩=_:=(f g (o+6) hg).trans c12;have d13:wc.cell? ⟨g,o+7,none⟩=_:=(f g (o+7) hg).trans c13;clear f c00 c01 c02 c03 c10 c11 c12 c13;have hC:∀w2,Below wc.heap.size wc w2->Calls Tryz.prog 110 #[.agg #[iv x0.k,iv x0.n,bz x0.t,.slice ax x0.l.length cx],.agg #[iv x1.k,iv x1.n,bz x1.t,.slice ay x1.l.length cy]] w2 fun r w'=>Br w2 (atV x0 x1) r w':=fun w2 hb=>(Pu (hw0.below (hbc.trans (hb.mono hbc.size))) (hw1.below (hbc.trans (hb.mono hbc.size))) (by have:=s0.1;omega) s0.tidy)
 have hB:=fun w2=>Cp (decide ((atV x0 x1).2=0)) w2
 generalize atV x0 x1=ov at *;obtain⟨z,hz⟩:∃z:Int,Hid ((if decide (ov.2=0)=true then (1:Int) else 0)=z):=⟨_,rfl⟩;have hbv:bV' (decide (ov.2=0))=.mk 2 z [] []:=by rw[<-hz.out]
 have hzw:∀(B:Nat->Prop) (w:World),IsW B w (.mk 2 z [] []) sZ:=fun B w=>by rw[<-hbv];exact Yl
 rw[hz.out] at hB;rw[hbv];clear hbv;have hSk:∀ww,Below wc.heap.size wc ww->ww.cell? ⟨g,o,none⟩=some (iv x0.k)∧ww.cell? ⟨g,o+1,none⟩=some (iv x0.n)∧ww.cell? ⟨g,o+2,none⟩=some (bz x0.t)∧ww.cell? ⟨g,o+3,none⟩=some (.slice ax x0.l.length cx)∧ww.cell? ⟨g,o+4,none⟩=some (iv x1.k)∧ww.cell? ⟨g,o+5,none⟩=some (iv x1.n)∧ww.cell? ⟨g,o+6,none⟩=some (bz x1.t)∧ww.cell? ⟨g,o+7,none⟩=some (.slice ay x1.l.length cy):=by
  intro ww hb;obtain⟨f,-⟩:=Ag hb;exact⟨(f _ _ hgc).trans d00,(f _ _ hgc).trans d01,(f _ _ hgc).trans d02,(f _ _ hgc).trans d03,(f _ _ hgc).trans d10,(f _ _ hgc).trans d11,(f _ _ hgc).trans d12,(f _ _ hgc).trans d13⟩
 by_cases hk:x0.k=5
 ·have hkb:(x0.k != 5)=false:=by simp[hk]
  rw[if_pos hk];clear hw0 hw1 s0 s1 hv i0 hxz hk;go_enter Tryz.func75,Tryz.ntmps75;go_wp2_with fail;refine wpE_begin (S:=fun w'=>w'.cell? ⟨g,o,none⟩=some (iv x0.k)∧w'.cell? ⟨g,o+1,none⟩=some (iv x0.n)∧w'.cell? ⟨g,o+2,none⟩=some (bz x0.t)∧w'.cell? ⟨g,o+3,none⟩=some (.slice ax x0.l.length cx)∧w'.cell? ⟨g,o+4,none⟩=some (iv x1.k)∧w'.cell? ⟨g,o+5,none⟩=some (iv x1.n)∧w'.cell? ⟨g,o+6,none⟩=some (bz x1.t)∧w'.cell? ⟨g,o+7,none⟩=some (.slice ay x1.l.length cy)) (N:=fun _=>true) (by kernel_rfl) ?_;have hS0:wc.drew.cell? ⟨g,o,none⟩=some (iv x0.k)∧wc.drew.cell? ⟨g,o+1,none⟩=some (iv x0.n)∧wc.drew.cell? ⟨g,o+2,none⟩=some (bz x0.t)∧wc.drew.cell? ⟨g,o+3,none⟩=some (.slice ax x0.l.length cx)∧wc.drew.cell? ⟨g,o+4,none⟩=some (iv x1.k)∧wc.drew.cell? ⟨g,o+5,none⟩=some (iv x1.n)∧wc.drew.cell? ⟨g,o+6,none⟩=some (bz x1.t)∧wc.drew.cell? ⟨g,o+7,none⟩=some (.slice ay x1.l.length cy):=hSk _ (Below.refl _ _).drew;refine Ah (some 81) (fun _=>false) (i:=0) (v:=sL g o 2 cv) rfl rfl (by kernel_rfl) (by kernel_rfl) (by kernel_rfl) (by kernel_rfl) (fun j hj=>by cases hj) (fun _ _ _ h=>h) rfl (fun w' hS=>by obtain⟨g0,g1,g2,g3,g4,g5,g6,g7⟩:=hS;go_simp) (hS0) ?_
  try simp only[aP]
  refine Ah (some 82) (fun _=>false) (i:=1) (v:=pt g o) rfl rfl (by kernel_rfl) (by kernel_rfl) (by kernel_rfl) (by kernel_rfl) (fun j hj=>by cases hj) (fun _ _ _ h=>h) rfl (fun w' hS=>by obtain⟨g0,g1,g2,g3,g4,g5,g6,g7⟩:=hS;go_simp) (hS0) ?_
  try simp only[aP]
  refine Ah (some 83) (fun _=>false) (i:=2) (v:=.agg #[iv x0.k,iv x0.n,bz x0.t,.slice ax x0.l.length cx]) rfl rfl (by kernel_rfl) (by kernel_rfl) (by kernel_rfl) (by kernel_rfl) (fun j hj=>by cases hj) (fun _ _ _ h=>h) rfl (fun w' hS=>by obtain⟨g0,g1,g2,g3,g4,g5,g6,g7⟩:=hS;go_simp) (hS0) ?_
  try simp only[aP]
  refine Ah (some 84) (fun _=>false) (i:=3) (v:=sL g o 2 cv) rfl rfl (by kernel_rfl) (by kernel_rfl) (by kernel_rfl) (by kernel_rfl) (fun j hj=>by cases hj) (fun _ _ _ h=>h) rfl (fun w' hS=>by obtain⟨g0,g1,g2,g3,g4,g5,g6,g7⟩:=hS;go_simp) (hS0) ?_
  try simp only[aP]
  refine Ah (some 85) (fun _=>false) (i:=4) (v:=pt g (o+4)) rfl rfl (by kernel_rfl) (by kernel_rfl) (by kernel_rfl) (by kernel_rfl) (fun j hj=>by cases hj) (fun _ _ _ h=>h) rfl (fun w' hS=>by obtain⟨g0,g1,g2,g3,g4,g5,g6,g7⟩:=hS;go_simp) (hS0) ?_
  try simp only[aP]
  refine Ah (some 86) (fun _=>false) (i:=5) (v:=.agg #[iv x1.k,iv x1.n,bz x1.t,.slice ay x1.l.length cy]) rfl rfl (by kernel_rfl) (by kernel_rfl) (by kernel_rfl) (by kernel_rfl) (fun j hj=>by cases hj) (fun _ _ _ h=>h) rfl (fun w' hS=>by obtain⟨g0,g1,g2,g3,g4,g5,g6,g7⟩:=hS;go_simp) (hS0) ?_
  try simp only[aP]
  refine Gu ?_;intro ac l hac hl
  suffices key:∀(wq:World) (gg:Nat) (a6:Option Addr) (c6:Nat),Below wc.heap.size wc wq->wc.heap.size<=gg->wq.heap[gg]?=some (.cells #[iv 0,iv 0,.string ⟨#[]⟩,sZ] 31 (0,0))->wpE Tryz.prog .any _ _ _ _ 2 #[true,true,true,true,true,true,true,true,true,true,true,false,false] (((((ac.put (some 87) (.tuple #[.agg #[iv ov.1.k,iv ov.1.n,.string ⟨ov.1.t.toArray⟩,.slice a6 ov.1.l.length c6],iv ov.2])).put (some 80) (.tuple #[.agg #[iv ov.1.k,iv ov.1.n,.string ⟨ov.1.t.toArray⟩,.slice a6 ov.1.l.length c6],iv ov.2])).put (some 88) (.agg #[iv ov.1.k,iv ov.1.n,.string ⟨ov.1.t.toArray⟩,.slice a6 ov.1.l.length c6])).put (some 89) (iv ov.2)).put (some 11) (pt gg 0)) wq by
   rw[hac,hl];refine Fb (i:=6) (j:=10) (by kernel_rfl) rfl rfl rfl rfl (fun K hK=>?_) (fun K hK=>?_)
   ·go_simp;refine (hC _ (Below.refl _ _).drew).mono ?_;rintro e w6 ⟨⟨a6,c6,rfl,hy6⟩,hb6⟩;replace hb6:Below wc.heap.size wc w6:=Ad hb6;refine hK _ _ (fun _=>hSk _ hb6) ?_;clear hK K
    try simp only[aP]
    refine Ah (some 80) (fun _=>false) (i:=7) (v:=.tuple #[.agg #[iv ov.1.k,iv ov.1.n,.string ⟨ov.1.t.toArray⟩,.slice a6 ov.1.l.length c6],iv ov.2]) rfl rfl (by kernel_rfl) (by kernel_rfl) (by kernel_rfl) (by kernel_rfl) (fun j hj=>by cases hj) (fun _ _ _ h=>h) rfl (fun w' hS=>by obtain⟨g0,g1,g2,g3,g4,g5,g6,g7⟩:=hS;go_simp) (hSk _ hb6) ?_
    try simp only[aP]
    refine Ah (some 88) (fun _=>false) (i:=8) (v:=.agg #[iv ov.1.k,iv ov.1.n,.string ⟨ov.1.t.toArray⟩,.slice a6 ov.1.l.length c6]) rfl rfl (by kernel_rfl) (by kernel_rfl) (by kernel_rfl) (by kernel_rfl) (fun j hj=>by cases hj) (fun _ _ _ h=>h) rfl (fun w' hS=>by obtain⟨g0,g1,g2,g3,g4,g5,g6,g7⟩:=hS;go_simp) (hSk _ hb6) ?_
    try simp only[aP]
    refine Ah (some 89) (fun _=>false) (i:=9) (v:=iv ov.2) rfl rfl (by kernel_rfl) (by kernel_rfl) (by kernel_rfl) (by kernel_rfl) (fun j hj=>by cases hj) (fun _ _ _ h=>h) rfl (fun w' hS=>by obtain⟨g0,g1,g2,g3,g4,g5,g6,g7⟩:=hS;go_simp) (hSk _ hb6) ?_
    try simp only[aP]
    obtain⟨w7,hW7,hb67,hs7,hblk7⟩:=Co w6;have hs6:=hb6.size;have hb37:Below wc.heap.size wc w7:=hb6.trans (hb67.mono hs6);refine Ac (i:=10) (by kernel_rfl) rfl rfl (fun K hK=>?_);go_simp;refine hK _ _ (fun _=>hSk _ hb37) ?_;clear hK K
    try simp only[aP]
    have h:=key w7 w6.heap.size a6 c6 hb37 hs6 hblk7;rw[hac] at h;simp only[aP] at h;refine Gu ?_;intro a2 l2 ha2 hl2;have hl3:l2=#[true,true,true,true,true,true,true,true,true,true,true,false,false]:=by rw[hl2];kernel_rfl
    rw[hl3,ha2];exact h
   ·go_simp;obtain⟨wy,hWy,hby,hsy,hblky⟩:=Co wc;have hb67:Below wc.heap.size wc wy.drew:=hby.trans ((Af wy 1).mono hby.size);have hblk7:wy.drew.heap[wc.heap.size]?=some (.cells #[iv 0,iv 0,.string ⟨#[]⟩,sZ] 31 (0,0)):=hblky
    try rw[hWy]
    refine hK _ _ (fun _=>hSk _ hb67) ?_;clear hK K
    try simp only[aP]
    refine Ac (i:=6) (by kernel_rfl) rfl rfl (fun K hK=>?_);go_simp;refine (hC _ hb67).mono ?_;rintro e w6 ⟨⟨a6,c6,rfl,hy6⟩,hb6⟩;have hb36:Below wc.heap.size wc w6:=hb67.trans (hb6.mono hb67.size);refine hK _ _ (fun _=>hSk _ hb36) ?_;clear hK K
    try simp only[aP]
    refine Ah (some 80) (fun _=>false) (i:=7) (v:=.tuple #[.agg #[iv ov.1.k,iv ov.1.n,.string ⟨ov.1.t.toArray⟩,.slice a6 ov.1.l.length c6],iv ov.2]) rfl rfl (by kernel_rfl) (by kernel_rfl) (by kernel_rfl) (by kernel_rfl) (fun j hj=>by cases hj) (fun _ _ _ h=>h) rfl (fun w' hS=>by obtain⟨g0,g1,g2,g3,g4,g5,g6,g7⟩:=hS;go_simp) (hSk _ hb36) ?_
    try simp only[aP]
    refine Ah (some 88) (fun _=>false) (i:=8) (v:=.agg #[iv ov.1.k,iv ov.1.n,.string ⟨ov.1.t.toArray⟩,.slice a6 ov.1.l.length c6]) rfl rfl (by kernel_rfl) (by kernel_rfl) (by kernel_rfl) (by kernel_rfl) (fun j hj=>by cases hj) (fun _ _ _ h=>h) rfl (fun w' hS=>by obtain⟨g0,g1,g2,g3,g4,g5,g6,g7⟩:=hS;go_simp) (hSk _ hb36) ?_
    try simp only[aP]
    refine Ah (some 89) (fun _=>false) (i:=9) (v:=iv ov.2) rfl rfl (by kernel_rfl) (by kernel_rfl) (by kernel_rfl) (by kernel_rfl) (fun j hj=>by cases hj) (fun _ _ _ h=>h) rfl (fun w' hS=>by obtain⟨g0,g1,g2,g3,g4,g5,g6,g7⟩:=hS;go_simp) (hSk _ hb36) ?_
    try simp only[aP]
    have h:=key w6 wc.heap.size a6 c6 hb36 (Nat.le_refl _) ((hb6.block _ hsy).trans hblk7);rw[hac] at h;simp only[aP] at h;refine Gu ?_;intro a2 l2 ha2 hl2;have hl3:l2=#[true,true,true,true,true,true,true,true,true,true,true,false,false]:=by rw[hl2];kernel_rfl
    rw[hl3,ha2];exact h
  intro wq gg a6 c6 hbq hgg hblkg;rw[hac];simp only[aP];clear hac hl ac l hC hS0;have hggq:gg<wq.heap.size:=(Array.getElem?_eq_some_iff.1 hblkg).1;obtain⟨s0',s1',s2',s3',t0',t1',t2',t3'⟩:=Aa hblkg;obtain⟨w9,hW9⟩:∃w9,Cx wq gg (iv ov.1.k) (iv ov.1.n) (.string ⟨ov.1.t.toArray⟩) (.slice a6 ov.1.l.length c6)=w9:=⟨_,rfl⟩;have hb39:Below wc.heap.size wc w9:=by rw[<-hW9];exact Aj hbq hgg _ _ _ _
  refine Ac (i:=11) (by kernel_rfl) rfl rfl (fun K hK=>?_);go_simp;refine hK _ _ (fun _=>by first | exact hSk _ hb39 | (simp only[Cx] at hW9;rw[hW9];exact hSk _ hb39)) ?_;clear hK K
  try simp only[aP]
  simp only[Cx] at hW9
  try rw[hW9]
  refine Ac (i:=12) (by kernel_rfl) rfl rfl (fun K hK=>?_);go_simp;refine hK _ _ (fun _=>hSk _ hb39) ?_;clear hK K hSk s0' s1' s2' s3' t0' t1' t2' t3' hblkg hW9
  try simp only[aP]
  refine Am (by kernel_rfl) ?_;simp only[Exit.inBlock,Exit.then];refine ‹∀(a:Act) (w:World),_->_› _ _ ?_;go_wp2_with fail;refine (hB w9).mono ?_;rintro r w5 ⟨rfl,hb5'⟩;have hb5:Below wc.heap.size wc w5:=hb39.trans (hb5'.mono hb39.size);clear hB n0 n1 n2 n3 t0 t1 t2 t3;have hx:IsW (From wc.heap.size) w5 (V.mk 2 z [] [],(0:Int)).1 (.slice none (V.mk 2 z [] [],(0:Int)).1.l.length 0):=hzw _ _;obtain⟨w6,w8,hW6,hTr,h7,m0,m1,m2,m3,hl8,hfin⟩:=Ch (o:=(V.mk 2 z [] [],(0:Int))) hm (by omega) lb lc hbc hb5 z6 z7 hx;obtain⟨n0,n1,n2,n3,t0,t1,t2,t3⟩:=Aa ((hb5.block _ lc).trans z7);have l7:wb.heap.size<w5.heap.size:=Nat.lt_of_lt_of_le lc hb5.size;simp only[V.k,V.n,V.t,V.l,List.length_nil] at hW6 hTr h7 m0 m1 m2 m3;clear z6 z7 hx hb5 hb5' hb39 j0 j1 u1 u2 u3 u4 d00 d01 d02 d03 d10 d11 d12 d13;go_wp2_with fail;refine hTr.mono ?_;rintro r w7 ⟨rfl,hw7⟩;obtain⟨a0,a1,a2,a3,b0,b1,b2,b3,k0,k1,k2,k3,l6,l7',hW8⟩:=h7 w7 hw7;clear h7 hw7 hTr;go_wp2_with fail;exact bodyPost_ret (v:=.agg #[iv 2,iv z,.string ⟨#[]⟩,sZ]) (by simp[results,Tryz.results75,go_sem,hl8,m0,m1,m2,m3]) rfl hfin
 ·have hkb:(x0.k != 5)=true:=by simpa using hk
  rw[if_neg hk];clear hw0 hw1 s0 s1 hv i0 hxz hk;go_enter Tryz.func75,Tryz.ntmps75;go_wp2_with fail;refine wpE_begin (S:=fun w'=>w'.cell? ⟨g,o,none⟩=some (iv x0.k)∧w'.cell? ⟨g,o+1,none⟩=some (iv x0.n)∧w'.cell? ⟨g,o+2,none⟩=some (bz x0.t)∧w'.cell? ⟨g,o+3,none⟩=some (.slice ax x0.l.length cx)∧w'.cell? ⟨g,o+4,none⟩=some (iv x1.k)∧w'.cell? ⟨g,o+5,none⟩=some (iv x1.n)∧w'.cell? ⟨g,o+6,none⟩=some (bz x1.t)∧w'.cell? ⟨g,o+7,none⟩=some (.slice ay x1.l.length cy)) (N:=fun _=>true) (by kernel_rfl) ?_;have hS0:wc.drew.cell? ⟨g,o,none⟩=some (iv x0.k)∧wc.drew.cell? ⟨g,o+1,none⟩=some (iv x0.n)∧wc.drew.cell? ⟨g,o+2,none⟩=some (bz x0.t)∧wc.drew.cell? ⟨g,o+3,none⟩=some (.slice ax x0.l.length cx)∧wc.drew.cell? ⟨g,o+4,none⟩=some (iv x1.k)∧wc.drew.cell? ⟨g,o+5,none⟩=some (iv x1.n)∧wc.drew.cell? ⟨g,o+6,none⟩=some (bz x1.t)∧wc.drew.cell? ⟨g,o+7,none⟩=some (.slice ay x1.l.length cy):=hSk _ (Below.refl _ _).drew;refine Ah (some 81) (fun _=>false) (i:=0) (v:=sL g o 2 cv) rfl rfl (by kernel_rfl) (by kernel_rfl) (by kernel_rfl) (by kernel_rfl) (fun j hj=>by cases hj) (fun _ _ _ h=>h) rfl (fun w' hS=>by obtain⟨g0,g1,g2,g3,g4,g5,g6,g7⟩:=hS;go_simp) (hS0) ?_
  try simp only[aP]
  refine Ah (some 82) (fun _=>false) (i:=1) (v:=pt g o) rfl rfl (by kernel_rfl) (by kernel_rfl) (by kernel_rfl) (by kernel_rfl) (fun j hj=>by cases hj) (fun _ _ _ h=>h) rfl (fun w' hS=>by obtain⟨g0,g1,g2,g3,g4,g5,g6,g7⟩:=hS;go_simp) (hS0) ?_
  try simp only[aP]
  refine Ah (some 83) (fun _=>false) (i:=2) (v:=.agg #[iv x0.k,iv x0.n,bz x0.t,.slice ax x0.l.length cx]) rfl rfl (by kernel_rfl) (by kernel_rfl) (by kernel_rfl) (by kernel_rfl) (fun j hj=>by cases hj) (fun _ _ _ h=>h) rfl (fun w' hS=>by obtain⟨g0,g1,g2,g3,g4,g5,g6,g7⟩:=hS;go_simp) (hS0) ?_
  try simp only[aP]
  refine Ah (some 84) (fun _=>false) (i:=3) (v:=sL g o 2 cv) rfl rfl (by kernel_rfl) (by kernel_rfl) (by kernel_rfl) (by kernel_rfl) (fun j hj=>by cases hj) (fun _ _ _ h=>h) rfl (fun w' hS=>by obtain⟨g0,g1,g2,g3,g4,g5,g6,g7⟩:=hS;go_simp) (hS0) ?_
  try simp only[aP]
  refine Ah (some 85) (fun _=>false) (i:=4) (v:=pt g (o+4)) rfl rfl (by kernel_rfl) (by kernel_rfl) (by kernel_rfl) (by kernel_rfl) (fun j hj=>by cases hj) (fun _ _ _ h=>h) rfl (fun w' hS=>by obtain⟨g0,g1,g2,g3,g4,g5,g6,g7⟩:=hS;go_simp) (hS0) ?_
  try simp only[aP]
  refine Ah (some 86) (fun _=>false) (i:=5) (v:=.agg #[iv x1.k,iv x1.n,bz x1.t,.slice ay x1.l.length cy]) rfl rfl (by kernel_rfl) (by kernel_rfl) (by kernel_rfl) (by kernel_rfl) (fun j hj=>by cases hj) (fun _ _ _ h=>h) rfl (fun w' hS=>by obtain⟨g0,g1,g2,g3,g4,g5,g6,g7⟩:=hS;go_simp) (hS0) ?_
  try simp only[aP]
  refine Gu ?_;intro ac l hac hl
  suffices key:∀(wq:World) (gg:Nat) (a6:Option Addr) (c6:Nat),Below wc.heap.size wc wq->wc.heap.size<=gg->wq.heap[gg]?=some (.cells #[iv 0,iv 0,.string ⟨#[]⟩,sZ] 31 (0,0))->wpE Tryz.prog .any _ _ _ _ 2 #[true,true,true,true,true,true,true,true,true,true,true,false,false] (((((ac.put (some 87) (.tuple #[.agg #[iv ov.1.k,iv ov.1.n,.string ⟨ov.1.t.toArray⟩,.slice a6 ov.1.l.length c6],iv ov.2])).put (some 80) (.tuple #[.agg #[iv ov.1.k,iv ov.1.n,.string ⟨ov.1.t.toArray⟩,.slice a6 ov.1.l.length c6],iv ov.2])).put (some 88) (.agg #[iv ov.1.k,iv ov.1.n,.string ⟨ov.1.t.toArray⟩,.slice a6 ov.1.l.length c6])).put (some 89) (iv ov.2)).put (some 11) (pt gg 0)) wq by
   rw[hac,hl];refine Fb (i:=6) (j:=10) (by kernel_rfl) rfl rfl rfl rfl (fun K hK=>?_) (fun K hK=>?_)
   ·go_simp;refine (hC _ (Below.refl _ _).drew).mono ?_;rintro e w6 ⟨⟨a6,c6,rfl,hy6⟩,hb6⟩;replace hb6:Below wc.heap.size wc w6:=Ad hb6;refine hK _ _ (fun _=>hSk _ hb6) ?_;clear hK K
    try simp only[aP]
    refine Ah (some 80) (fun _=>false) (i:=7) (v:=.tuple #[.agg #[iv ov.1.k,iv ov.1.n,.string ⟨ov.1.t.toArray⟩,.slice a6 ov.1.l.length c6],iv ov.2]) rfl rfl (by kernel_rfl) (by kernel_rfl) (by kernel_rfl) (by kernel_rfl) (fun j hj=>by cases hj) (fun _ _ _ h=>h) rfl (fun w' hS=>by obtain⟨g0,g1,g2,g3,g4,g5,g6,g7⟩:=hS;go_simp) (hSk _ hb6) ?_
    try simp only[aP]
    refine Ah (some 88) (fun _=>false) (i:=8) (v:=.agg #[iv ov.1.k,iv ov.1.n,.string ⟨ov.1.t.toArray⟩,.slice a6 ov.1.l.length c6]) rfl rfl (by kernel_rfl) (by kernel_rfl) (by kernel_rfl) (by kernel_rfl) (fun j hj=>by cases hj) (fun _ _ _ h=>h) rfl (fun w' hS=>by obtain⟨g0,g1,g2,g3,g4,g5,g6,g7⟩:=hS;go_simp) (hSk _ hb6) ?_
    try simp only[aP]
    refine Ah (some 89) (fun _=>false) (i:=9) (v:=iv ov.2) rfl rfl (by kernel_rfl) (by kernel_rfl) (by kernel_rfl) (by kernel_rfl) (fun j hj=>by cases hj) (fun _ _ _ h=>h) rfl (fun w' hS=>by obtain⟨g0,g1,g2,g3,g4,g5,g6,g7⟩:=hS;go_simp) (hSk _ hb6) ?_
    try simp only[aP]
    obtain⟨w7,hW7,hb67,hs7,hblk7⟩:=Co w6;have hs6:=hb6.size;have hb37:Below wc.heap.size wc w7:=hb6.trans (hb67.mono hs6);refine Ac (i:=10) (by kernel_rfl) rfl rfl (fun K hK=>?_);go_simp;refine hK _ _ (fun _=>hSk _ hb37) ?_;clear hK K
    try simp only[aP]
    have h:=key w7 w6.heap.size a6 c6 hb37 hs6 hblk7;rw[hac] at h;simp only[aP] at h;refine Gu ?_;intro a2 l2 ha2 hl2;have hl3:l2=#[true,true,true,true,true,true,true,true,true,true,true,false,false]:=by rw[hl2];kernel_rfl
    rw[hl3,ha2];exact h
   ·go_simp;obtain⟨wy,hWy,hby,hsy,hblky⟩:=Co wc;have hb67:Below wc.heap.size wc wy.drew:=hby.trans ((Af wy 1).mono hby.size);have hblk7:wy.drew.heap[wc.heap.size]?=some (.cells #[iv 0,iv 0,.string ⟨#[]⟩,sZ] 31 (0,0)):=hblky
    try rw[hWy]
    refine hK _ _ (fun _=>hSk _ hb67) ?_;clear hK K
    try simp only[aP]
    refine Ac (i:=6) (by kernel_rfl) rfl rfl (fun K hK=>?_);go_simp;refine (hC _ hb67).mono ?_;rintro e w6 ⟨⟨a6,c6,rfl,hy6⟩,hb6⟩;have hb36:Below wc.heap.size wc w6:=hb67.trans (hb6.mono hb67.size);refine hK _ _ (fun _=>hSk _ hb36) ?_;clear hK K
    try simp only[aP]
    refine Ah (some 80) (fun _=>false) (i:=7) (v:=.tuple #[.agg #[iv ov.1.k,iv ov.1.n,.string ⟨ov.1.t.toArray⟩,.slice a6 ov.1.l.length c6],iv ov.2]) rfl rfl (by kernel_rfl) (by kernel_rfl) (by kernel_rfl) (by kernel_rfl) (fun j hj=>by cases hj) (fun _ _ _ h=>h) rfl (fun w' hS=>by obtain⟨g0,g1,g2,g3,g4,g5,g6,g7⟩:=hS;go_simp) (hSk _ hb36) ?_
    try simp only[aP]
    refine Ah (some 88) (fun _=>false) (i:=8) (v:=.agg #[iv ov.1.k,iv ov.1.n,.string ⟨ov.1.t.toArray⟩,.slice a6 ov.1.l.length c6]) rfl rfl (by kernel_rfl) (by kernel_rfl) (by kernel_rfl) (by kernel_rfl) (fun j hj=>by cases hj) (fun _ _ _ h=>h) rfl (fun w' hS=>by obtain⟨g0,g1,g2,g3,g4,g5,g6,g7⟩:=hS;go_simp) (hSk _ hb36) ?_
    try simp only[aP]
    refine Ah (some 89) (fun _=>false) (i:=9) (v:=iv ov.2) rfl rfl (by kernel_rfl) (by kernel_rfl) (by kernel_rfl) (by kernel_rfl) (fun j hj=>by cases hj) (fun _ _ _ h=>h) rfl (fun w' hS=>by obtain⟨g0,g1,g2,g3,g4,g5,g6,g7⟩:=hS;go_simp) (hSk _ hb36) ?_
    try simp only[aP]
    have h:=key w6 wc.heap.size a6 c6 hb36 (Nat.le_refl _) ((hb6.block _ hsy).trans hblk7);rw[hac] at h;simp only[aP] at h;refine Gu ?_;intro a2 l2 ha2 hl2;have hl3:l2=#[true,true,true,true,true,true,true,true,true,true,true,false,false]:=by rw[hl2];kernel_rfl
    rw[hl3,ha2];exact h
  intro wq gg a6 c6 hbq hgg hblkg;rw[hac];simp only[aP];clear hac hl ac l hC hS0;have hggq:gg<wq.heap.size:=(Array.getElem?_eq_some_iff.1 hblkg).1;obtain⟨s0',s1',s2',s3',t0',t1',t2',t3'⟩:=Aa hblkg;obtain⟨w9,hW9⟩:∃w9,Cx wq gg (iv ov.1.k) (iv ov.1.n) (.string ⟨ov.1.t.toArray⟩) (.slice a6 ov.1.l.length c6)=w9:=⟨_,rfl⟩;have hb39:Below wc.heap.size wc w9:=by rw[<-hW9];exact Aj hbq hgg _ _ _ _
  refine Ac (i:=11) (by kernel_rfl) rfl rfl (fun K hK=>?_);go_simp;refine hK _ _ (fun _=>by first | exact hSk _ hb39 | (simp only[Cx] at hW9;rw[hW9];exact hSk _ hb39)) ?_;clear hK K
  try simp only[aP]
  simp only[Cx] at hW9
  try rw[hW9]
  refine Ac (i:=12) (by kernel_rfl) rfl rfl (fun K hK=>?_);go_simp;refine hK _ _ (fun _=>hSk _ hb39) ?_;clear hK K hSk s0' s1' s2' s3' t0' t1' t2' t3' hblkg hW9
  try simp only[aP]
  refine Am (by kernel_rfl) ?_;simp only[Exit.inBlock,Exit.then];refine ‹∀(a:Act) (w:World),_->_› _ _ ?_;go_wp2_with fail;refine (hB w9).mono ?_;rintro r w5 ⟨rfl,hb5'⟩;have hb5:Below wc.heap.size wc w5:=hb39.trans (hb5'.mono hb39.size);clear hB n0 n1 n2 n3 t0 t1 t2 t3;have hx:IsW (From wc.heap.size) w5 (V.mk 2 z [] [],(40:Int)).1 (.slice none (V.mk 2 z [] [],(40:Int)).1.l.length 0):=hzw _ _;obtain⟨w6,w8,hW6,hTr,h7,m0,m1,m2,m3,hl8,hfin⟩:=Ch (o:=(V.mk 2 z [] [],(40:Int))) hm (by omega) lb lc hbc hb5 z6 z7 hx;obtain⟨n0,n1,n2,n3,t0,t1,t2,t3⟩:=Aa ((hb5.block _ lc).trans z7);have l7:wb.heap.size<w5.heap.size:=Nat.lt_of_lt_of_le lc hb5.size;simp only[V.k,V.n,V.t,V.l,List.length_nil] at hW6 hTr h7 m0 m1 m2 m3;clear z6 z7 hx hb5 hb5' hb39 j0 j1 u1 u2 u3 u4 d00 d01 d02 d03 d10 d11 d12 d13;go_wp2_with fail;refine hTr.mono ?_;rintro r w7 ⟨rfl,hw7⟩;obtain⟨a0,a1,a2,a3,b0,b1,b2,b3,k0,k1,k2,k3,l6,l7',hW8⟩:=h7 w7 hw7;clear h7 hw7 hTr;go_wp2_with fail;exact bodyPost_ret (v:=.agg #[iv 2,iv z,.string ⟨#[]⟩,sZ]) (by simp[results,Tryz.results75,go_sem,hl8,m0,m1,m2,m3]) rfl hfin
end
section
open Go.RowKit
theorem Oy{B:Nat->Prop}{p:Nat}{cs fs ss:Value}{fl:Int}{F:List Fu}{i:In}{vs:List V}{av:Option Addr}{cv:Nat}{w:World}{base:Nat}(hbase:base<=w.heap.size)(ht:Cj base w)(hm:Mc p w cs fs ss fl 0)(hv:Al B w vs (.slice av vs.length cv))(hs:Av vs)(h12:12<=i.op)(h21:i.op<=21)(hn:(vs.length:Int)=popN F i) :
  Calls Tryz.prog 75 #[pt p 0,.agg #[iv i.op,iv i.a],.slice av vs.length cv] w fun r w'=>RMk p cs fs ss fl (opV it15 i vs) w r w':=by
 have hc:i.op=12∨i.op=13∨i.op=14∨i.op=15∨i.op=16∨i.op=17∨i.op=18∨i.op=19∨i.op=20∨i.op=21:=by omega
 have hpop:(i.op=20->vs.length=3)∧(i.op=12∨i.op=17∨i.op=18∨i.op=19∨i.op=21->vs.length=2)∧(i.op=13∨i.op=14∨i.op=15∨i.op=16->vs.length=1):=by
  unfold popN Eh F0 at hn;refine⟨fun e=>?_,fun e=>?_,fun e=>?_⟩
  ·rw[e] at hn;simp at hn;omega
  ·rcases e with e | e | e | e | e <;> rw[e] at hn <;> simp at hn <;> omega
  ·rcases e with e | e | e | e <;> rw[e] at hn <;> simp at hn <;> omega
 obtain⟨op,a⟩:=i;simp only at *;have h1:∀{vs:List V},vs.length=1->∃x0,vs=[x0]:=fun {vs} h=>List.length_eq_one_iff.1 h
 have h2:∀{vs:List V},vs.length=2->∃x0 x1,vs=[x0,x1]:=fun {vs} h=>by
  match vs,h with
  | [a,b],_=>exact⟨a,b,rfl⟩
 have h3:∀{vs:List V},vs.length=3->∃x0 x1 x2,vs=[x0,x1,x2]:=fun {vs} h=>by
  match vs,h with
  | [a,b,c],_=>exact⟨a,b,c,rfl⟩
 rcases hc with rfl | rfl | rfl | rfl | rfl | rfl | rfl | rfl | rfl | rfl
 ·obtain⟨x0,x1,rfl⟩:=h2 (hpop.2.1 (by simp));exact X2 hm hv (hs x0 (by simp)) (hs x1 (by simp))
 ·obtain⟨x0,rfl⟩:=h1 (hpop.2.2 (by simp));exact X3 hm hv (hs x0 (by simp))
 ·obtain⟨x0,rfl⟩:=h1 (hpop.2.2 (by simp));exact X9 hm hv
 ·obtain⟨x0,rfl⟩:=h1 (hpop.2.2 (by simp));exact Yb hm hv (hs x0 (by simp))
 ·obtain⟨x0,rfl⟩:=h1 (hpop.2.2 (by simp));exact X8 hbase ht hm hv (hs x0 (by simp))
 ·obtain⟨x0,x1,rfl⟩:=h2 (hpop.2.1 (by simp));exact Yc hm hv (hs x0 (by simp)) (hs x1 (by simp))
 ·obtain⟨x0,x1,rfl⟩:=h2 (hpop.2.1 (by simp));exact X4 hm hv (hs x0 (by simp)) (hs x1 (by simp))
 ·obtain⟨x0,x1,rfl⟩:=h2 (hpop.2.1 (by simp));exact X5 hm hv (hs x0 (by simp)) (hs x1 (by simp))
 ·obtain⟨x0,x1,x2,rfl⟩:=h3 (hpop.1 (by simp));exact X6 hm hv (hs x0 (by simp)) (hs x1 (by simp)) (hs x2 (by simp))
 ·obtain⟨x0,x1,rfl⟩:=h2 (hpop.2.1 (by simp));exact X7 hm hv (hs x0 (by simp)) (hs x1 (by simp))
section
variable {base p:Nat} {A A':Nat->Prop} {m:Md} {cs fs ss ls:Value} {loc sts:List V} {fl tr:Int} {w w':World}
theorem VmO.whole(h:VmO base p A' m cs fs ss sts fl tr w)(h1:∀k,A' k->A k)(np:¬A p)(ns:∀k,ss.ownBlock=some k->¬A k)(hi:∀k,w.heap.size<=k->A k):VmO base p A m cs fs ss sts fl tr w:=
 ⟨h.mc,h.md.base (fun k hk _=>h1 k hk),h.st.base (fun k hk hl=>by
  rcases hk with hk | hk
  ·exact Or.inl (h1 k hk)
  ·exact Or.inr hk),h.tb,h.bp,h.bs,np,ns,h.sp,hi⟩
theorem VmO.off{g:Nat}(h:VmO base p A m cs fs ss sts fl tr w)(hf:Fr (fun k=>k≠g) w w')(h1:¬A g)(h2:p≠g)(h3:ss.ownBlock≠some g)(h4:base<=g):VmO base p A m cs fs ss sts fl tr w':=
 ⟨h.mc.keep (hf.block p h2 h.mc.lt),h.md.since ⟨hf.size,fun k hk hl=>hf.block k (by rintro rfl;exact h1 hk) hl⟩,h.st.since ⟨hf.size,fun k hk hl=>hf.block k (by
  rintro rfl;rcases hk with hk | hk
  ·exact h1 hk
  ·exact h3 hk) hl⟩,h.tb.fr hf h.le (fun j hj=>by show j≠g;omega),h.bp,h.bs,h.np,h.ns,h.sp,fun k hk=>h.hi k (Nat.le_trans hf.size hk)⟩
end
noncomputable def A9 (o:VOut):V:=if o.trap=0 then o.val else V.zero
def Jh(base p:Nat)(A:Nat->Prop)(m:Md)(cs fs ss:Value)(o:VOut)(w:World)(r:Ending)(w':World):Prop:=
 (∃ao cap,r=.returned (.agg #[iv (A9 o).k,iv (A9 o).n,.string ⟨(A9 o).t.toArray⟩,.slice ao (A9 o).l.length cap])∧IsW A w' (A9 o) (.slice ao (A9 o).l.length cap))∧VmO base p A m cs fs ss o.sts o.fuel o.trap w'∧Fr (fun k=>k≠p∧ss.ownBlock≠some k) w w'
def Ww(base p:Nat)(m:Md)(states:Int)(G:Nat):Prop:=∀(A:Nat->Prop) (cs fs ss:Value) (n:Nat) (f:Fu) (H:Nat->Option Int) (args sts:List V) (aa:Option Addr) (ca:Nat) (fl:Int) (o:VOut) (w:World),VmO base p A m cs fs ss sts fl 0 w->Al A w args (.slice aa args.length ca)->(args.length:Int)=f.params->Vst m states n f H 0 (loc0 f args) [] sts fl->fl<=4096->vmRun it15 m G n 0 (loc0 f args) [] sts fl=some o ->
 Calls Tryz.prog 34 #[pt p 0,iv n,.slice aa args.length ca] w (Jh base p A m cs fs ss o w)
theorem Yd{B:Nat->Prop}{m:Md}{states:Int}(hr:Run m states){n:Nat}{f:Fu}(hf:m.funcs[n]?=some f){i:In}(hi:Do m.consts.length states n f i){m1:Value}{af:Option Addr}{cf:Nat}{w:World}(hm:B5 B w m.funcs (.slice af m.funcs.length cf)):Calls Tryz.prog 72 #[.agg #[m1,.slice af m.funcs.length cf],.agg #[iv i.op,iv i.a]] w fun e w'=>e=.returned (iv (popN m.funcs i))∧Below w.heap.size w w':=by
 by_cases h9:i.op=9
 ·obtain⟨h1,h2,h3,h4⟩:=Au.1 hi;have hlo:0<=i.a:=by unfold Bc at h3;rw[h9] at h3;simpa using h3
  have hup:i.a<n:=by unfold Bx at h4;rw[h9] at h4;simpa using h4
  have hn:=(List.getElem?_eq_some_iff.1 hf).1;have hk:i.a.toNat<m.funcs.length:=by omega
  exact Jz hm h9 (n:=i.a.toNat) (by omega) (List.getElem?_eq_getElem hk)
 ·exact Ib (by simpa using h9)
end
end Go.Proofs.YtnijcolomoobnaaGreatDoor
