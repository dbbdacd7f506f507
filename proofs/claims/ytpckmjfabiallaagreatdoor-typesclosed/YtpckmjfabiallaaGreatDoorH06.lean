/- Texts of ours, joined. -/
import Derived.Test.YtpckmjfabiallaaGreatDoorH03
import Derived.Deep.RegionHeld3
import Derived.Deep.AppendLies
set_option linter.unusedVariables false
set_option linter.unusedSimpArgs false
set_option maxRecDepth 100000
set_option maxHeartbeats 16000000
namespace Go.Proofs.YtpckmjfabiallaaGreatDoor
variable{B':Nat->Prop}{T:TypeId}{b d f g ga gp j m p pl sz:Nat}{sl v:Value}{w w' w1:World}{x:List UInt8}{xs:List Value}
open List
open Tryz
section
open Go.RowKit
theorem Zl(a:Value)(t:Value)(m p:Value)(w:World):(Instr.field 93 (.agg #[a,t,m,p]) 0).run prog w=.ok a w:=by kernel_rfl
theorem U7(a:Value)(t:Value)(m p:Value)(w:World):(Instr.field 93 (.agg #[a,t,m,p]) 1).run prog w=.ok t w:=by kernel_rfl
theorem Am0(a:Value)(t:Value)(m p:Value)(w:World):(Instr.field 93 (.agg #[a,t,m,p]) 2).run prog w=.ok m w:=by kernel_rfl
theorem Qn(a:Value)(t:Value)(m p:Value)(w:World):(Instr.field 93 (.agg #[a,t,m,p]) 3).run prog w=.ok p w:=by kernel_rfl
theorem pgiveUp_any{t:Lx.Tok}{r:List Lx.Tok}(h:Ps b ga (t :: r) w)(er:Nat) :
  AA 69 #[pt b 0,iv er] w λ e w'=>e=.panicked (Bl t.place er)/\Below w.heap.size w w':=by
 have hn:=B9 h;have a3:=Qn;go_enter func69,ntmps69;go_wp2_with (go_at_call 43;refine hn.mono ?_;rintro e w1 ⟨rfl,a0⟩);exact⟨rfl,rfl,by assumption⟩
theorem Al{k:Nat}{o:Obj}(h:k<w.heap.size):(w.alloc o).heap[k]?=w.heap[k]?:=((AF w.heap.size w).alloc (AD _) o).block k h
abbrev tokB(t:Lx.Tok):Obj:=.cells #[iv t.kind,.string ⟨t.text.toArray⟩,iv t.num,iv t.place] 93
theorem ptake_any{t:Lx.Tok}{r:List Lx.Tok}(h:Ps b ga (t :: r) w)(hk:t.kind≠5) :
  AA 70 #[pt b 0] w λ e w'=>e=.returned (.agg #[iv t.kind,.string ⟨t.text.toArray⟩,iv t.num,iv t.place])/\Ps b ga r w'/\Fo b w.heap.size w w':=by
 have hb:=h.there;have hg:=h.gl;have a9:=h.ne;have a4:=h.few;simp only[length_cons] at a4;obtain⟨o,c,c0,ab,a8,f0,x0,x1,x2,x3,a3⟩:=h.cells;replace a3:=(show Aside _ from a3 hk);obtain⟨o',c',a0,_⟩:=h.mem;have a6:w.heap[b]?=some (.cells #[sL ga o (r.length+1) c] 55 (0,0)):=by
  have:=cell_of_one a0;rw[c0] at this;simp at this;rw[a0];simp[this]
 have a7:0<r.length:=by
  match r,h.good.tail hk with
  | u :: v,_=>simp
 have aa:¬c=1:=by omega
 unfold maxLen at a8;clear h a0;go_enter func70,ntmps70;go_wp2;have a5:Fo b w.heap.size w (((w.setCell ⟨b,0,none⟩ (sL ga (o+4) r.length (c - 1))).alloc (tokB t)).alloc (tokB t)):=((Fo.set 0 _).alloc (by simp[World.setCell]) _).alloc (by simp[World.setCell]) _;refine bodyPost_ret (v:=.agg #[iv t.kind,.string ⟨t.text.toArray⟩,iv t.num,iv t.place]) (by simp[results,results70,go_sem]) rfl ⟨rfl,a3.out _ ?_ a5,a5⟩;rw[Al (by simp[World.setCell];omega),Al (by simpa [World.setCell] using hb)];simp[World.setCell,Array.getElem?_modify,a6]
theorem F8{l:List Lx.Tok}(h:Ps b ga l w)(x:Lx.B) :
  AA 106 #[pt b 0,.string ⟨x.toArray⟩] w λ e w'=>e=.returned (.bool (Px.sees (cls x) x l))/\Below w.heap.size w w':=by
 obtain⟨t,r,rfl,a4⟩:=h.head;have hn:=B9 h;rw[<-Ys a4 (Ah0 x)];by_cases hx:t.text=x
 .have a6:=Yw t.text;by_cases hk:t.kind=3
  .have a0:isB x t=false:=by simp[isB,hk]
   rw[a0];have a5:((t.kind:Int) != 3)=false:=by simp;omega
   subst hx;clear hk a0 a4 h;go_enter func106,ntmps106;go_wp2_with (go_at_call 43;refine hn.mono ?_;rintro e w1 ⟨rfl,a3⟩);go_ret;exact⟨rfl,by first | exact a3.alloc a3.size _ | exact Below.alloc (by assumption) (Below.size (by assumption)) _⟩
  .have a0:isB x t=true:=by simp[isB,hk,hx]
   rw[a0];have a5:((t.kind:Int) != 3)=true:=by simp;omega
   subst hx;clear hk a0 a4 h;go_enter func106,ntmps106;go_wp2_with (go_at_call 43;refine hn.mono ?_;rintro e w1 ⟨rfl,a3⟩);go_ret;exact⟨rfl,by first | exact a3.alloc a3.size _ | exact Below.alloc (by assumption) (Below.size (by assumption)) _⟩
 .have a0:isB x t=false:=by simp[isB,hx]
  rw[a0];have a6:=Yv hx;clear a0 a4 h;go_enter func106,ntmps106;go_wp2_with (go_at_call 43;refine hn.mono ?_;rintro e w1 ⟨rfl,a3⟩);go_ret;exact⟨rfl,by first | exact a3.alloc a3.size _ | exact Below.alloc (by assumption) (Below.size (by assumption)) _⟩
theorem Mp{l:List Lx.Tok}{x:Lx.B}(h:Ps b ga l w)(hx:x≠[])(hs:Px.sees (cls x) x l=true):∃t r,l=t :: r/\t.kind≠5:=by
 obtain⟨t,r,rfl,h1,_⟩:=Px.sees_head hs;exact⟨t,r,rfl,by have:=Ah1 hx;omega⟩
theorem Ay{l:List Lx.Tok}(h:Ps b ga l w)(x:Lx.B)(hx:x≠[])(hs:Px.sees (cls x) x l=true) :
  AA 68 #[pt b 0,.string ⟨x.toArray⟩] w λ e w'=>e=.returned (.bool true)/\Ps b ga l.tail w'/\Fo b w.heap.size w w':=by
 have hi:=F8 h x;rw[hs] at hi;obtain⟨t,r,rfl,hk⟩:=Mp h hx hs;clear hs hx;go_enter func68,ntmps68;go_wp2_with fail;refine hi.mono ?_;rintro e w1 ⟨rfl,a0⟩;have h1:=h.below a0;go_wp2_with fail;refine (ptake_any h1 hk).mono ?_;rintro e w2 ⟨rfl,h2,a3⟩;go_wp2;go_ret;exact⟨rfl,h2,(AW a0).call a3 a0.size⟩
theorem A5{l:List Lx.Tok}(h:Ps b ga l w)(x:Lx.B)(hs:Px.sees (cls x) x l=false) :
  AA 68 #[pt b 0,.string ⟨x.toArray⟩] w λ e w'=>e=.returned (.bool false)/\Ps b ga l w'/\Below w.heap.size w w':=by
 have hi:=F8 h x;rw[hs] at hi;clear hs;go_enter func68,ntmps68;go_wp2_with fail;refine hi.mono ?_;rintro e w1 ⟨rfl,a0⟩;have h1:=h.below a0;go_wp2;go_ret;exact⟨rfl,h1,a0⟩
theorem Wq{l:List Lx.Tok}(h:Ps b ga l w)(x:Lx.B)(hx:x≠[])(hs:Px.sees (cls x) x l=true) :
  AA 41 #[pt b 0,.string ⟨x.toArray⟩] w λ e w'=>e=.returned (.tuple #[])/\Ps b ga l.tail w'/\Fo b w.heap.size w w':=by
 have hi:=Ay h x hx hs;clear hs hx;go_enter func41,ntmps41;go_wp2_with fail;refine hi.mono ?_;rintro e w1 ⟨rfl,h1,a0⟩;go_wp2
 go_end0
 exact⟨rfl,h1,a0⟩
theorem Zm{l:List Lx.Tok}(h:Ps b ga l w)(x:Lx.B)(hs:Px.sees (cls x) x l=false) :
  AA 41 #[pt b 0,.string ⟨x.toArray⟩] w λ e w'=>e=.panicked (Bl (Px.place l) 31)/\Fo b w.heap.size w w':=by
 have hi:=A5 h x hs;obtain⟨t,r,rfl,_⟩:=h.head;clear hs;go_enter func41,ntmps41;go_wp2_with fail;refine hi.mono ?_;rintro e w1 ⟨rfl,h1,a0⟩;go_wp2_with fail;refine (pgiveUp_any h1 31).mono ?_;rintro e w2 ⟨rfl,a3⟩;exact⟨rfl,rfl,(AW a0).below a3 a0.size⟩
theorem pneed_any{l:List Lx.Tok}(h:Ps b ga l w)(k:Nat)(x:Lx.B)(hx:x≠[])(hk:cls x=k) :
  AA 41 #[pt b 0,.string ⟨x.toArray⟩] w λ e w'=>Cn b ga w (Px.needK k x l) (λ _ v _=>v=.tuple #[]) e w':=by
 subst hk;unfold Px.needK;rcases hs:Px.sees (cls x) x l with _ | _
 .refine (Zm h x hs).mono ?_;rintro e w1 ⟨rfl,hf⟩;exact⟨rfl,hf⟩
 .refine (Wq h x hx hs).mono ?_;rintro e w1 ⟨rfl,h1,hf⟩;exact⟨_,rfl,rfl,h1,hf⟩
theorem L2(x:Lx.B):Px.reserved x=((x == [118,101,114,115,105,111,110]) || ((x == [115,116,97,116,101]) || ((x == [102,110]) || ((x == [111,110]) || ((x == [108,101,116]) || ((x == [115,101,116]) || ((x == [100,101,108]) || ((x == [105,102]) || ((x == [101,108,115,101]) || ((x == [102,111,114]) || ((x == [116,111]) || ((x == [114,101,116]) || ((x == [116,114,117,101]) || ((x == [102,97,108,115,101]) || ((x == [105,110,116]) || ((x == [98,111,111,108]) || (x == [116,101,120,116]))))))))))))))))):=by
 simp only[Px.reserved,Px.words,contains_cons,contains_nil,Bool.or_false]
theorem Ei(x:Lx.B)(w:World):AA 126 #[.string ⟨x.toArray⟩] w λ r w'=>r=.returned (.bool (Px.reserved x))/\w'=w:=by
 have a0:Aside (Px.reserved x=_):=L2 x;go_enter func126,ntmps126;go_wp2
 all_goals
  rename_i hz hy
  first
  | exact absurd (hy.symm.trans hz) Bool.false_ne_true
  |(have h1:Px.reserved x=true:=(by rw[a0.out];simp only[hy,Bool.true_or,Bool.or_true]);go_ret;exact⟨ret_bool h1.symm,rfl⟩)
  |(have h1:Px.reserved x=false:=(by rw[a0.out];simp only[*,Bool.false_or]);go_ret;exact⟨ret_bool h1.symm,rfl⟩)
theorem Qo{l:List Lx.Tok}(h:Ps b ga l w) :
  AA 42 #[pt b 0] w λ e w'=>Cn b ga w (Px.number l) (λ n v _=>v=iv n) e w':=by
 obtain⟨t,r,rfl,_⟩:=h.head;have hn:=B9 h;have a7:=Zl;have a3:=Am0;simp only[Px.number];by_cases hk:t.kind=2
 .rw[if_pos hk];have a6:((t.kind:Int) != 2)=false:=by simp;omega
  have a5:t.kind≠5:=by omega
  clear hk;go_enter func42,ntmps42;go_wp2_with fail;refine hn.mono ?_;rintro e w1 ⟨rfl,a0⟩;have h1:=h.below a0;go_wp2_with fail;refine (ptake_any h1 a5).mono ?_;rintro e w2 ⟨rfl,h2,a3⟩;go_wp2;go_ret;exact⟨_,rfl,rfl,h2,(AW a0).call a3 a0.size⟩
 .rw[if_neg hk];have a6:((t.kind:Int) != 2)=true:=by simp;omega
  clear hk;go_enter func42,ntmps42;go_wp2_with fail;refine hn.mono ?_;rintro e w1 ⟨rfl,a0⟩;have h1:=h.below a0;go_wp2_with fail;refine (pgiveUp_any h1 31).mono ?_;rintro e w2 ⟨rfl,a4⟩;exact⟨rfl,rfl,(AW a0).below a4 a0.size⟩
abbrev zeroTok:Obj:=.cells #[iv 0,sE,iv 0,iv 0] 93
def Av0(t:Lx.Tok)(v:Value):Prop:=v=.agg #[iv t.kind,.string ⟨t.text.toArray⟩,iv t.num,iv t.place]
theorem F9{l:List Lx.Tok}(h:Ps b ga l w) :
  AA 107 #[pt b 0] w λ e w'=>Cn b ga w (Px.name l) (λ t v _=>Av0 t v) e w':=by
 obtain⟨t,r,rfl,_⟩:=h.head;have h0:=h.alloc zeroTok;have hn:=B9 h0;have a5:Below w.heap.size w (w.alloc zeroTok):=(AF _ _).alloc (AD _) _;have a8:=heap_new w zeroTok;have ah:(w.alloc zeroTok).heap.size=w.heap.size+1:=by simp
 have ad:w.heap.size≠b:=by have:=h.there;omega
 have a9:w.heap.size≠ga:=by have:=h.gl;omega
 simp only[Px.name];by_cases hk:t.kind=1/\Px.reserved t.text=false
 .rw[if_pos hk];obtain⟨a6,a4⟩:=hk;have af:((t.kind:Int) != 1)=false:=by simp;omega
  have ag:t.kind≠5:=by omega
  have hR:=Ei t.text;rw[a4] at hR;clear a6 a4;go_enter func107,ntmps107;go_wp2_with fail;generalize w.alloc zeroTok=w0 at *;refine hn.mono ?_;rintro e w1 ⟨rfl,a0⟩;have h1:=(h0.below a0).alloc (tokB t);have a3:Below w.heap.size w (w1.alloc (tokB t)):=(a5.trans (a0.mono a5.size)).alloc (by have:=a5.size;have:=a0.size;omega) _;have ae:(w1.alloc (tokB t)).heap[w.heap.size]?=some zeroTok:=by
   rw[Al (by have:=a0.size;omega),a0.block _ (by omega)];exact a8
  have ai:w.heap.size<(w1.alloc (tokB t)).heap.size:=by have:=a0.size;simp;omega
  clear hn a8 a0 h0;go_wp2_with fail;refine (hR _).mono ?_;rintro e w2 ⟨rfl,rfl⟩;generalize w1.alloc (tokB t)=w2 at *;go_wp2_with fail;refine (ptake_any h1 ag).mono ?_;rintro e w3 ⟨rfl,h3,a7⟩;have ab:w3.heap[w.heap.size]?=some zeroTok:=(a7.block _ ai ad).trans ae;have aj:w.heap.size<w3.heap.size:=by have:=a7.size;omega
  obtain⟨e0,e1,e2,e3,k0,k1,k2,k3⟩:=cells_of4 ab;have hf:Fo b w.heap.size w w3:=(AW a3).call a7 (by omega);clear ab ae hR a7;go_wp2;exact bodyPost_ret (v:=.agg #[iv t.kind,.string ⟨t.text.toArray⟩,iv t.num,iv t.place]) (by simp[results,results107,go_sem,e0,e1,e2,e3]) rfl ⟨_,rfl,rfl,h3.set4 ad a9 _ _ _ _,hf.set4 (AD _) _ _ _ _⟩
 .rw[if_neg hk];by_cases a6:t.kind=1
  .have af:((t.kind:Int) != 1)=false:=by simp;omega
   have a4:Px.reserved t.text=true:=by
    rcases hr:Px.reserved t.text with _ | _
    .exact absurd ⟨a6,hr⟩ hk
    .rfl
   have hR:=Ei t.text;rw[a4] at hR;clear a6 a4 hk;go_enter func107,ntmps107;go_wp2_with fail;generalize w.alloc zeroTok=w0 at *;refine hn.mono ?_;rintro e w1 ⟨rfl,a0⟩;have h1:=(h0.below a0).alloc (tokB t);have a3:Below w.heap.size w (w1.alloc (tokB t)):=(a5.trans (a0.mono a5.size)).alloc (by have:=a5.size;have:=a0.size;omega) _;clear hn a8 a0 h0;go_wp2_with fail;refine (hR _).mono ?_;rintro e w2 ⟨rfl,rfl⟩;generalize w1.alloc (tokB t)=w2 at *;go_wp2_with fail;refine (pgiveUp_any h1 31).mono ?_;rintro e w3 ⟨rfl,aa⟩;exact⟨rfl,rfl,(AW a3).below aa a3.size⟩
  .have af:((t.kind:Int) != 1)=true:=by simp;omega
   clear a6 hk;go_enter func107,ntmps107;go_wp2_with fail;generalize w.alloc zeroTok=w0 at *;refine hn.mono ?_;rintro e w1 ⟨rfl,a0⟩;have h1:=(h0.below a0).alloc (tokB t);have a3:Below w.heap.size w (w1.alloc (tokB t)):=(a5.trans (a0.mono a5.size)).alloc (by have:=a5.size;have:=a0.size;omega) _;clear hn a8 a0 h0;go_wp2_with fail;generalize w1.alloc (tokB t)=w2 at *;refine (pgiveUp_any h1 31).mono ?_;rintro e w3 ⟨rfl,aa⟩;exact⟨rfl,rfl,(AW a3).below aa a3.size⟩
theorem pwithin_ok{l:List Lx.Tok}(h:Ps b ga l w)(d m:Nat)(hd:d<=m) :
  AA 136 #[pt b 0,iv d,iv m] w λ e w'=>e=.returned (.tuple #[])/\w'=w:=by
 have a0:¬((m:Int)<(d:Int)):=by omega
 go_enter func136,ntmps136;go_wp2
 go_end0
 exact⟨rfl,rfl⟩
theorem pwithin_bad{l:List Lx.Tok}(h:Ps b ga l w)(d m:Nat)(hd:m<d) :
  AA 136 #[pt b 0,iv d,iv m] w λ e w'=>e=.panicked (Bl (Px.place l) 32)/\Fo b w.heap.size w w':=by
 obtain⟨t,r,rfl,_⟩:=h.head;have a3:((m:Int)<(d:Int)):=by omega
 go_enter func136,ntmps136;go_wp2_with fail;refine (pgiveUp_any h 32).mono ?_;rintro e w2 ⟨rfl,a0⟩;exact⟨rfl,rfl,AW a0⟩
def anyOf(ws:List Lx.B)(l:List Lx.Tok):Bool:=ws.any λ x=>Px.sees (cls x) x l
theorem Sy{l:List Lx.Tok}(h:Ps b ga l w)(ws:List Lx.B)(g:Nat)(hg:g<w.heap.size)(hw:ws.length<=100)(hc:∀(i:Nat) (x:Lx.B),ws[i]?=some x->w.cell? ⟨g,i,none⟩=some (.string ⟨x.toArray⟩)) :
  AA 190 #[sL g 0 ws.length ws.length,.func (.func 106) #[pt b 0] #[]] w λ e w'=>(∃z:Int,e=.returned (iv z)/\decide (0<=z)=anyOf ws l)/\Below w.heap.size w w':=by
 obtain⟨ans,a4⟩:∃ans,Aside (ans=anyOf ws l):=⟨_,rfl⟩;rw[<-a4.out];go_enter func190,ntmps190;go_wp2_with fail
 go_loopg [8] ws.length (λ m ix wr=>∃q:Nat,q<=ws.length/\m=ws.length - q/\ix=iv q/\Below w.heap.size w wr/\Aside (ans=anyOf (ws.drop q) l))
 case atStart=>exact⟨0,AO _,rfl,rfl,AF _ _,a4⟩
 case round=>
  obtain⟨q,hq,rfl,rfl,hB,a5⟩:=hrel;by_cases hlt:q<ws.length
  .obtain⟨x,hx⟩:∃x,ws[q]?=some x:=⟨ws[q],AN hlt⟩;have a8:wr.cell? ⟨g,q,none⟩=some (.string ⟨x.toArray⟩):=(hB.cell (p:=⟨g,q,none⟩) hg).trans (hc q x hx);have a6:(q:Int)<(ws.length:Int):=by omega
   have a9:g<wr.heap.size:=by have:=hB.size;omega
   have hi:=F8 (h.keep (hB.block b h.there) (hB.block ga h.gl) hB.size) x;have hd:ws.drop q=x :: ws.drop (q+1):=by
    rw[drop_eq_getElem_cons hlt];have:=AN hlt;rw[hx] at this;simp at this;rw[<-this]
   have a3:Aside (ans=(Px.sees (cls x) x l || anyOf (ws.drop (q+1)) l)):=by
    show _=_;rw[a5.out,hd];rfl
   clear a5 hd hx hc a4;rcases hs:Px.sees (cls x) x l with _ | _
   .rw[hs] at hi;have a0:Aside (ans=anyOf (ws.drop (q+1)) l):=by
     show _=_;rw[a3.out,hs,Bool.false_or]
    clear a3 hs;go_wp2_with fail;refine hi.mono ?_;rintro e w2 ⟨rfl,a7⟩;go_wp2_with fail;go_roundg (ws.length - (q+1))
    case measure=>omega
    case rel=>exact⟨q+1,by omega,rfl,by go_num,hB.trans (a7.mono hB.size),a0⟩
   .rw[hs] at hi;have a0:Aside (ans=true):=by
     show _=_;rw[a3.out,hs,Bool.true_or]
    clear a3 hs;go_wp2_with fail;refine hi.mono ?_;rintro e w2 ⟨rfl,a7⟩;go_wp2;go_ret;exact⟨⟨_,rfl,by rw[a0.out];simp⟩,hB.trans (a7.mono hB.size)⟩
  .have a6:¬(q:Int)<(ws.length:Int):=by omega
   have a0:Aside (ans=false):=by
    show _=_;rw[a5.out,drop_eq_nil_of_le (by omega)];rfl
   clear a5 a4;go_wp2;go_ret;exact⟨⟨_,rfl,by rw[a0.out];rfl⟩,hB⟩
theorem L3{l:List Lx.Tok}(h:Ps b ga l w)(ws:List Lx.B)(g:Nat)(hg:g<w.heap.size)(hw:ws.length<=100)(hc:∀(i:Nat) (x:Lx.B),ws[i]?=some x->w.cell? ⟨g,i,none⟩=some (.string ⟨x.toArray⟩)) :
  AA 161 #[sL g 0 ws.length ws.length,.func (.func 106) #[pt b 0] #[]] w λ e w'=>e=.returned (.bool (anyOf ws l))/\Below w.heap.size w w':=by
 have hi:=Sy h ws g hg hw hc;clear hc h;go_enter func161,ntmps161;go_wp2_with fail;refine hi.mono ?_;rintro e w1 ⟨⟨z,rfl,hz⟩,a0⟩;replace hz:=(show Aside _ from hz);go_wp2;go_ret;exact⟨ret_bool (by rw[<-hz.out]),a0⟩
def oneOf(ws:List Lx.B)(l:List Lx.Tok):Px.R Lx.B:=
 match l with
 | t :: r=>if anyOf ws l then .inl (t.text,r) else Px.fail 31 l
 | []=>Px.fail 31 l
theorem Kh{l:List Lx.Tok}(h:Ps b ga l w)(ws:List Lx.B)(a3:∀x∈ws,x≠[])(g:Nat)(hg:g<w.heap.size)(hw:ws.length<=100)(hc:∀(i:Nat) (x:Lx.B),ws[i]?=some x->w.cell? ⟨g,i,none⟩=some (.string ⟨x.toArray⟩)) :
  AA 137 #[pt b 0,sL g 0 ws.length ws.length] w λ e w'=>Cn b ga w (oneOf ws l) (λ x v _=>v=.string ⟨x.toArray⟩) e w':=by
 have hi:=L3 h ws g hg hw hc;obtain⟨t,r,rfl,_⟩:=h.head;have a8:=U7;have a7:∀(fn:Fn) (first cap:Array Value) (w:World),(Instr.makeFunc fn first cap).run prog w=.ok (.func fn first cap) w:=λ _ _ _ _=>rfl
 simp only[oneOf];rcases ha:anyOf ws (t :: r) with _ | _
 .rw[ha] at hi;clear ha hc;go_enter func137,ntmps137;go_wp2_with fail;refine hi.mono ?_;rintro e w1 ⟨rfl,a0⟩;have h1:=h.below a0;go_wp2_with fail;refine (pgiveUp_any h1 31).mono ?_;rintro e w2 ⟨rfl,a5⟩;exact⟨rfl,rfl,(AW a0).below a5 a0.size⟩
 .rw[ha] at hi;have a4:t.kind≠5:=by
   obtain⟨x,hx,hs⟩:=any_eq_true.1 ha;obtain⟨t',r',he,hk⟩:=Mp h (a3 x hx) hs;simp at he;rw[he.1];exact hk
  clear ha hc a3;go_enter func137,ntmps137;go_wp2_with fail;refine hi.mono ?_;rintro e w1 ⟨rfl,a0⟩;have h1:=h.below a0;go_wp2_with fail;refine (ptake_any h1 a4).mono ?_;rintro e w2 ⟨rfl,h2,a6⟩;go_wp2;go_ret;exact⟨_,rfl,rfl,h2,(AW a0).call a6 a0.size⟩
theorem Mr{k k':Nat}{x y:Lx.B}{l:List Lx.Tok}(h:Px.sees k x l=true)(hk:k'≠k):Px.sees k' y l=false:=by
 obtain⟨t,r,rfl,h1,_⟩:=Px.sees_head h;simp[Px.sees];intro h2;omega
theorem Wt{k k':Nat}{x y:Lx.B}{l:List Lx.Tok}(h:Px.sees k x l=true)(hk:y≠x):Px.sees k' y l=false:=by
 obtain⟨t,r,rfl,_,h1⟩:=Px.sees_head h;simp[Px.sees];intro _ h2;exact hk (h2.symm.trans h1)
theorem Eo{k:Nat}{x:Lx.B}{t:Lx.Tok}{r:List Lx.Tok}(h:Px.sees k x (t :: r)=true):t.text=x:=by
 obtain⟨t',r',he,_,h1⟩:=Px.sees_head h;simp at he;rw[he.1];exact h1
theorem Ao7(l:List Lx.Tok):Px.key l=oneOf [[105,110,116],[116,101,120,116]] l:=by
 match l with
 | []=>rfl
 | t :: r=>
  show (if Px.sees 1 [105,110,116] (t :: r) then _ else if Px.sees 1 [116,101,120,116] (t :: r) then _ else _)=if anyOf [[105,110,116],[116,101,120,116]] (t :: r) then _ else _
  have ha:anyOf [[105,110,116],[116,101,120,116]] (t :: r)=(Px.sees 1 [105,110,116] (t :: r) || (Px.sees 1 [116,101,120,116] (t :: r) || false)):=rfl;rw[ha];rcases h1:Px.sees 1 [105,110,116] (t :: r) with _ | _
  .rcases h2:Px.sees 1 [116,101,120,116] (t :: r) with _ | _
   .rfl
   .simp only[Bool.false_eq_true,if_false,if_true,Bool.or_false,Bool.or_true,Eo h2,tail_cons]
  .simp only[if_true,Bool.true_or,Eo h1,tail_cons]
theorem Zp(k:Nat)(l:List Lx.Tok):Px.typ (k+1) l =
  if Px.sees 4 [91] l then Px.bind (Px.typ k l.tail) λ t l1=>Px.bind (Px.need [93] l1) λ _ l2=>.inl ([91] ++ t ++ [93],l2)
  else if Px.sees 4 [123] l then Px.bind (oneOf [[105,110,116],[116,101,120,116]] l.tail) λ a l1=>Px.bind (Px.need [58] l1) λ _ l2=>Px.bind (Px.typ k l2) λ t l3=>Px.bind (Px.need [125] l3) λ _ l4=>.inl ([123] ++ a ++ [58] ++ t ++ [125],l4)
  else oneOf [[105,110,116],[98,111,111,108],[116,101,120,116]] l:=by
 simp only[Px.typ,<-Ao7];rcases h4:Px.sees 4 [91] l with _ | _
 .rcases h5:Px.sees 4 [123] l with _ | _
  .simp only[Bool.false_eq_true,if_false]
   match l,h4,h5 with
   | [],_,_=>rfl
   | t :: r,_,_=>
    have ha:anyOf [[105,110,116],[98,111,111,108],[116,101,120,116]] (t :: r)=(Px.sees 1 [105,110,116] (t :: r) || (Px.sees 1 [98,111,111,108] (t :: r) || (Px.sees 1 [116,101,120,116] (t :: r) || false))):=rfl;simp only[oneOf,ha];rcases h1:Px.sees 1 [105,110,116] (t :: r) with _ | _
    .rcases h2:Px.sees 1 [98,111,111,108] (t :: r) with _ | _
     .rcases h3:Px.sees 1 [116,101,120,116] (t :: r) with _ | _
      .rfl
      .simp only[Bool.false_eq_true,if_false,if_true,Bool.or_false,Bool.or_true,Eo h3,tail_cons]
     .simp only[Bool.false_eq_true,if_false,if_true,Bool.false_or,Bool.true_or,Eo h2,tail_cons]
    .simp only[if_true,Bool.true_or,Eo h1,tail_cons]
  .simp only[Mr h5 (k':=1) (by decide),Bool.false_eq_true,if_false,if_true]
 .simp only[Mr h4 (k':=1) (by decide),Bool.false_eq_true,if_false,if_true]
theorem Ig{ws:List Lx.B}{n:Nat}(hw:∀x∈ws,x.length<=n){l l':List Lx.Tok}{x:Lx.B}(h:oneOf ws l=.inl (x,l')):x.length<=n:=by
 match l,h with
 | [],h=>simp[oneOf,Px.fail] at h
 | t :: r,h=>
  simp only[oneOf] at h;split at h
  .rename_i ha;obtain⟨y,hy,hs⟩:=any_eq_true.1 ha;simp at h;rw[<-h.1,Eo hs];exact hw y hy
  .simp[Px.fail] at h
theorem Jn:∀(k:Nat) (l l':List Lx.Tok) (x:Lx.B),Px.typ k l=.inl (x,l')->x.length<=4+7*k
 | 0,l,l',x,h=>by simp[Px.typ,Px.fail] at h
 | k+1,l,l',x,h=>by
  rw[Zp] at h;split at h
  .rcases h1:Px.typ k l.tail with⟨t,l1⟩ | f
   .rw[h1] at h;simp only[Px.bind] at h;rcases h2:Px.need [93] l1 with⟨u,l2⟩ | f
    .rw[h2] at h;simp at h;have:=Jn k _ _ _ h1;rw[<-h.1];simp;omega
    .rw[h2] at h;simp at h
   .rw[h1] at h;simp[Px.bind] at h
  .split at h
   .rcases h0:oneOf [[105,110,116],[116,101,120,116]] l.tail with⟨a,l1⟩ | f
    .rw[h0] at h;simp only[Px.bind] at h;have ha:=Ig (n:=4) (by decide) h0;rcases h2:Px.need [58] l1 with⟨u,l2⟩ | f
     .rw[h2] at h;simp only at h;rcases h1:Px.typ k l2 with⟨t,l3⟩ | f
      .rw[h1] at h;simp only at h;rcases h3:Px.need [125] l3 with⟨u,l4⟩ | f
       .rw[h3] at h;simp at h;have:=Jn k _ _ _ h1;rw[<-h.1];simp;omega
       .rw[h3] at h;simp at h
      .rw[h1] at h;simp at h
     .rw[h2] at h;simp at h
    .rw[h0] at h;simp[Px.bind] at h
   .have:=Ig (n:=4) (by decide) h;omega
theorem Wu(a c:AQ):(⟨a.toArray⟩ ++ ⟨c.toArray⟩:ByteArray)=⟨(a ++ c).toArray⟩:=Ev (by rw[ByteArray.data_append];simp)
theorem As3(x y:Lx.B):Value.string (⟨#[123]⟩ ++ ⟨x.toArray⟩ ++ ⟨#[58]⟩ ++ ⟨y.toArray⟩ ++ ⟨#[125]⟩)=.string ⟨([123] ++ x ++ [58] ++ y ++ [125]).toArray⟩:=by rw[<-Wu,<-Wu,<-Wu,<-Wu]
theorem As4(y:Lx.B):Value.string (⟨#[91]⟩ ++ ⟨y.toArray⟩ ++ ⟨#[93]⟩)=.string ⟨([91] ++ y ++ [93]).toArray⟩:=by rw[<-Wu,<-Wu]
abbrev Sz(ws:List Lx.B):Obj:=.cells (ws.map λ x=>Value.string ⟨x.toArray⟩).toArray 9
theorem Ms{ws:List Lx.B}(h:w.heap[g]?=some (Sz ws)):∀(i:Nat) (x:Lx.B),ws[i]?=some x->w.cell? ⟨g,i,none⟩=some (.string ⟨x.toArray⟩):=by
 intro i x hx;simp[World.cell?,h,hx]
def Oo(k:Nat):Prop:=∀(d b ga:Nat) (l:List Lx.Tok) (w:World),d+k=5->Ps b ga l w->AA 108 #[pt b 0,iv d] w λ e w'=>Cn b ga w (Px.typ k l) (λ x v _=>v=.string ⟨x.toArray⟩) e w'
theorem S0:Oo 0:=by
 intro d b ga l w hd h;go_enter func108,ntmps108;go_wp2_with fail;refine (pwithin_bad h d 4 (by omega)).mono ?_;rintro e w1 ⟨rfl,a0⟩;exact⟨rfl,rfl,a0⟩
theorem S1(k:Nat)(IH:Oo k):Oo (k+1):=by
 intro d b ga l w hd h;obtain⟨res,a0⟩:∃res,Aside (res=Px.typ (k+1) l):=⟨_,rfl⟩;rw[<-a0.out];replace a0:Aside (res=_):=a0.out.trans (Zp k l);have am:(d:Int)+1<=6:=by omega
 go_enter func108,ntmps108;go_wp2_with fail;refine (pwithin_ok h d 4 (by omega)).mono ?_;rintro e w1 ⟨rfl,rfl⟩;have ag:∀(l:List Lx.Tok) (w:World),Ps b ga l w->AA 108 #[pt b 0,iv ((d:Int)+1)] w λ e w'=>Cn b ga w (Px.typ k l) (λ x v _=>v=.string ⟨x.toArray⟩) e w':=λ l w h=>IH (d+1) b ga l w (by omega) h
 rcases h4:Px.sees 4 [91] l with _ | _
 .go_wp2_with fail
  refine (A5 h [91] h4).mono ?_;rintro e w2 ⟨rfl,h2,a7⟩;rcases h5:Px.sees 4 [123] l with _ | _
  .replace a0:Aside (res=oneOf [[105,110,116],[98,111,111,108],[116,101,120,116]] l):=by
    show _=_;rw[a0.out,if_neg (by rw[h4];simp),if_neg (by rw[h5];simp)]
   go_wp2_with fail
   refine (A5 h2 [123] h5).mono ?_;rintro e w3 ⟨rfl,h3,ah⟩;have hF:Below w1.heap.size w1 (w3.alloc (Sz [[105,110,116],[98,111,111,108],[116,101,120,116]])):=(a7.trans (ah.mono a7.size)).alloc (by have:=a7.size;have:=ah.size;omega) _;have hP:=h3.alloc (Sz [[105,110,116],[98,111,111,108],[116,101,120,116]]);have hC:=Kh hP [[105,110,116],[98,111,111,108],[116,101,120,116]] (by decide) w3.heap.size (by simp) (by decide) (Ms (heap_new w3 _));clear h4 h5;go_wp2_with fail;refine (show AA 137 #[pt b 0,sL w3.heap.size 0 3 3] (w3.alloc (Sz [[105,110,116],[98,111,111,108],[116,101,120,116]])) _ from hC).mono ?_;rcases hq:oneOf [[105,110,116],[98,111,111,108],[116,101,120,116]] l with⟨x,l4⟩ | ⟨a,er⟩
   .rintro e w4 ⟨v,rfl,rfl,h5,a6⟩;rw[hq] at a0;clear hq hC;go_wp2;go_ret;rw[a0.out];exact⟨_,rfl,rfl,h5,(AW hF).call a6 hF.size⟩
   .rintro e w4 ⟨rfl,a6⟩;refine⟨rfl,?_⟩;rw[a0.out,hq];exact⟨rfl,(AW hF).call a6 hF.size⟩
  .replace a0:Aside (res=Px.bind (oneOf [[105,110,116],[116,101,120,116]] l.tail) λ a l1=>Px.bind (Px.need [58] l1) λ _ l2=>Px.bind (Px.typ k l2) λ t l3=>Px.bind (Px.need [125] l3) λ _ l4=>.inl ([123] ++ a ++ [58] ++ t ++ [125],l4)):=by
    show _=_;rw[a0.out,if_neg (by rw[h4];simp),if_pos h5]
   go_wp2_with fail
   refine (Ay h2 [123] (by decide) h5).mono ?_;rintro e w3 ⟨rfl,h3,af⟩;have ae:Fo b w1.heap.size w1 w3:=(AW a7).call af a7.size;have hF:=ae.alloc ae.size (Sz [[105,110,116],[116,101,120,116]]);have hP:=h3.alloc (Sz [[105,110,116],[116,101,120,116]]);have hC:=Kh hP [[105,110,116],[116,101,120,116]] (by decide) w3.heap.size (by simp) (by decide) (Ms (heap_new w3 _));clear h4 h5;go_wp2_with fail;refine (show AA 137 #[pt b 0,sL w3.heap.size 0 2 2] (w3.alloc (Sz [[105,110,116],[116,101,120,116]])) _ from hC).mono ?_;rcases hq:oneOf [[105,110,116],[116,101,120,116]] l.tail with⟨x,l4⟩ | ⟨a,er⟩
   .rintro e w4 ⟨v,rfl,rfl,h5,a6⟩;have ak:=Ig (n:=4) (by decide) hq;rw[hq] at a0;have a9:=hF.call a6 hF.size;clear hq hC a6 hF ae hP h3 af a7 h2;go_wp2_with fail;refine (pneed_any h5 4 [58] (by decide) (by decide)).mono ?_;rcases hq:Px.need [58] l4 with⟨u,l5⟩ | ⟨a,er⟩
    .rw[show Px.needK 4 [58] l4=_ from hq];rintro e w5 ⟨v,rfl,rfl,h6,ab⟩;replace a0:Aside (res=Px.bind (Px.typ k l5) λ t l3=>Px.bind (Px.need [125] l3) λ _ l4=>.inl ([123] ++ x ++ [58] ++ t ++ [125],l4)):=by
      show _=_;rw[a0.out];simp only[Px.bind,hq]
     have a8:=a9.call ab a9.size;clear hq a9 ab h5;go_wp2_with fail;refine (ag l5 w5 h6).mono ?_;rcases hq:Px.typ k l5 with⟨y,l6⟩ | ⟨a,er⟩
     .rintro e w6 ⟨v,rfl,rfl,h7,a5⟩;have ai:=Jn k _ _ _ hq;replace a0:Aside (res=Px.bind (Px.need [125] l6) λ _ l4=>.inl ([123] ++ x ++ [58] ++ y ++ [125],l4)):=by
       show _=_;rw[a0.out];simp only[Px.bind,hq]
      have a3:=a8.call a5 a8.size;clear hq a8 a5 h6;go_wp2_with fail;refine (pneed_any h7 4 [125] (by decide) (by decide)).mono ?_;rcases hq:Px.need [125] l6 with⟨u,l7⟩ | ⟨a,er⟩
      .rw[show Px.needK 4 [125] l6=_ from hq];rintro e w7 ⟨v,rfl,rfl,h8,a4⟩;replace a0:Aside (res=.inl ([123] ++ x ++ [58] ++ y ++ [125],l7)):=by
        show _=_;rw[a0.out];simp only[Px.bind,hq]
       have ad:=a3.call a4 a3.size;have al:(⟨x.toArray⟩:ByteArray).size=x.length:=by show x.toArray.size=_;simp
       have aj:(⟨y.toArray⟩:ByteArray).size=y.length:=by show y.toArray.size=_;simp
       have c0:¬9223372036854775807<1+x.length:=by omega
       have c1:¬9223372036854775807<1+x.length+1:=by omega
       have c2:¬9223372036854775807<1+x.length+1+y.length:=by omega
       have c3:¬9223372036854775807<1+x.length+1+y.length+1:=by omega
       clear hq a3 a4 h7;go_wp2;go_ret;rw[a0.out];exact⟨_,rfl,As3 x y,h8,ad⟩
      .rw[show Px.needK 4 [125] l6=_ from hq];rintro e w7 ⟨rfl,a4⟩;refine⟨rfl,?_⟩;rw[a0.out,hq];exact⟨rfl,a3.call a4 a3.size⟩
     .rintro e w6 ⟨rfl,a5⟩;refine⟨rfl,?_⟩;rw[a0.out,hq];exact⟨rfl,a8.call a5 a8.size⟩
    .rw[show Px.needK 4 [58] l4=_ from hq];rintro e w5 ⟨rfl,ab⟩;refine⟨rfl,?_⟩;rw[a0.out];simp only[Px.bind,hq];exact⟨rfl,a9.call ab a9.size⟩
   .rintro e w4 ⟨rfl,a6⟩;refine⟨rfl,?_⟩;rw[a0.out,hq];exact⟨rfl,hF.call a6 hF.size⟩
 .replace a0:Aside (res=Px.bind (Px.typ k l.tail) λ t l1=>Px.bind (Px.need [93] l1) λ _ l2=>.inl ([91] ++ t ++ [93],l2)):=by
   show _=_;rw[a0.out,if_pos h4]
  go_wp2_with fail
  refine (Ay h [91] (by decide) h4).mono ?_;rintro e w2 ⟨rfl,h2,aa⟩;clear h4;go_wp2_with fail;refine (ag l.tail w2 h2).mono ?_;rcases hq:Px.typ k l.tail with⟨y,l6⟩ | ⟨a,er⟩
  .rintro e w6 ⟨v,rfl,rfl,h7,a5⟩;have ai:=Jn k _ _ _ hq;replace a0:Aside (res=Px.bind (Px.need [93] l6) λ _ l4=>.inl ([91] ++ y ++ [93],l4)):=by
    show _=_;rw[a0.out];simp only[Px.bind,hq]
   have a3:=aa.call a5 aa.size;clear hq aa a5 h2;go_wp2_with fail;refine (pneed_any h7 4 [93] (by decide) (by decide)).mono ?_;rcases hq:Px.need [93] l6 with⟨u,l7⟩ | ⟨a,er⟩
   .rw[show Px.needK 4 [93] l6=_ from hq];rintro e w7 ⟨v,rfl,rfl,h8,a4⟩;replace a0:Aside (res=.inl ([91] ++ y ++ [93],l7)):=by
     show _=_;rw[a0.out];simp only[Px.bind,hq]
    have ad:=a3.call a4 a3.size;have aj:(⟨y.toArray⟩:ByteArray).size=y.length:=by show y.toArray.size=_;simp
    have c1:¬9223372036854775807<1+y.length:=by omega
    have c2:¬9223372036854775807<1+y.length+1:=by omega
    clear hq a3 a4 h7;go_wp2;go_ret;rw[a0.out];exact⟨_,rfl,As4 y,h8,ad⟩
   .rw[show Px.needK 4 [93] l6=_ from hq];rintro e w7 ⟨rfl,a4⟩;refine⟨rfl,?_⟩;rw[a0.out,hq];exact⟨rfl,a3.call a4 a3.size⟩
  .rintro e w6 ⟨rfl,a5⟩;refine⟨rfl,?_⟩;rw[a0.out,hq];exact⟨rfl,aa.call a5 aa.size⟩
theorem Ih:∀k,Oo k
 | 0=>S0
 | k+1=>S1 k (Ih k)
abbrev E2:Obj:=.cells #[sE,sE,iv 0] 40
def SlV(s:Px.Sl)(v:Value):Prop:=v=.agg #[.string ⟨s.name.toArray⟩,.string ⟨s.type.toArray⟩,iv s.place]
theorem skip_way{Z:Prop}(w:World)(h:Z):wpAny prog .any #[] (λ _ _ _=>True) 0 #[] { tmps:=#[],defers:=[] } w->Z:=λ _=>h
theorem Mt{l:List Lx.Tok}(h:Ps b ga l w) :
  AA 71 #[pt b 0] w λ e w'=>Cn b ga w (Px.slot l) (λ s v _=>SlV s v) e w':=by
 obtain⟨res,a0⟩:∃res,Aside (res=Px.slot l):=⟨_,rfl⟩;rw[<-a0.out];have a9:w.heap.size≠b:=by have:=h.there;omega
 have ae:w.heap.size≠ga:=by have:=h.gl;omega
 have h0:=h.alloc E2;have ag:=heap_new w E2;have a6:Fo b w.heap.size w (w.alloc E2):=(AV _ _ _).alloc (AD _) _;have af:w.heap.size<(w.alloc E2).heap.size:=by simp
 have hC:=F9 h0;go_enter func71,ntmps71;go_wp2_with fail;generalize w.alloc E2=w0 at *;refine hC.mono ?_;rcases hq:Px.name l with⟨t,l1⟩ | ⟨a,er⟩
 .rintro e w1 ⟨v,rfl,rfl,h1,a5⟩;replace a0:Aside (res=Px.bind (Px.need [58] l1) λ _ l2=>Px.bind (Px.typ 4 l2) λ y l3=>.inl (⟨t.text,y,t.place⟩,l3)):=by
   show _=_;rw[a0.out,Px.slot,hq];rfl
  have aj:w1.heap[w.heap.size]?=some E2:=(a5.block _ af a9).trans ag;have ab:=a6.call a5 a6.size;have ay:w.heap.size<w1.heap.size:=by have:=a5.size;omega
  have h2:=h1.alloc (tokB t);have ak:(w1.alloc (tokB t)).heap[w.heap.size]?=some E2:=(Al ay).trans aj;have a8:=ab.alloc ab.size (tokB t);have aq:w.heap.size<(w1.alloc (tokB t)).heap.size:=by simp;omega
  have al:=heap_new w1 (tokB t);have au:w1.heap.size<(w1.alloc (tokB t)).heap.size:=by simp
  have ad:w1.heap.size≠b:=by have:=h1.there;omega
  clear hC ag aj a6 ab h0 h1 a5 hq af;go_wp2_with fail;generalize w1.alloc (tokB t)=w2 at *;generalize w1.heap.size=g3 at *;refine (pneed_any h2 4 [58] (by decide) (by decide)).mono ?_;rcases hq:Px.need [58] l1 with⟨u,l2⟩ | ⟨a,er⟩
  .rw[show Px.needK 4 [58] l1=_ from hq];rintro e w3 ⟨v,rfl,rfl,h3,a4⟩;replace a0:Aside (res=Px.bind (Px.typ 4 l2) λ y l3=>.inl (⟨t.text,y,t.place⟩,l3)):=by
    show _=_;rw[a0.out,hq];rfl
   have am:w3.heap[w.heap.size]?=some E2:=(a4.block _ aq a9).trans ak;have av:w3.heap[g3]?=some (tokB t):=(a4.block _ au ad).trans al;have ah:=a8.call a4 a8.size;have aa:w.heap.size<w3.heap.size:=by have:=a4.size;omega
   have ai:g3<w3.heap.size:=by have:=a4.size;omega
   obtain⟨x0,x1,x2,x3,_⟩:=cells_of4 av;have hT:∀w',Ps b ga l2 w'->AA 108 #[pt b 0,iv 1] w' λ e w''=>Cn b ga w' (Px.typ 4 l2) (λ x v _=>v=.string ⟨x.toArray⟩) e w'':=λ w' h'=>Ih 4 1 b ga l2 w' (by decide) h'
   clear ak al a8 h2 a4 hq;rcases hq:Px.typ 4 l2 with⟨y,l3⟩ | ⟨a,er⟩
   .rw[hq] at hT;replace a0:Aside (res=.inl (⟨t.text,y,t.place⟩,l3)):=by
     show _=_;rw[a0.out,hq];rfl
    replace hT:∀w',Ps b ga l2 w'->AA 108 #[pt b 0,iv 1] w' λ e w''=>∃v,e=.returned v/\v=.string ⟨y.toArray⟩/\Ps b ga l3 w''/\Fo b w'.heap.size w' w'':=hT
    clear hq;have ax:g3≠w.heap.size:=by omega
    have aw:w.heap.size≠g3:=by omega
    go_wp2_with fail
    go_region_held3 (λ w'=>w'.cell? ⟨g3,1,none⟩=some (.string ⟨t.text.toArray⟩)/\w'.cell? ⟨g3,3,none⟩=some (iv t.place)) (go_keep)
     ((go_at_call 108;refine (hT w3.drew (h3.keep rfl rfl (AD _))).mono ?_;rintro e w4 ⟨v,rfl,rfl,h4,a3⟩;have y1:=(a3.cell (o:=1) ai ad).trans x1;have y3:=(a3.cell (o:=3) ai ad).trans x3;have az:w.heap.size<w4.heap.size:=AL aa a3.size;have ar:w4.heap[w.heap.size]?=some E2:=(a3.block _ aa a9).trans am;obtain⟨e0,e1,e2,k0,k1,k2⟩:=Ag ar))
    go_wp2;rw[a0.out];exact bodyPost_ret (v:=.agg #[.string ⟨t.text.toArray⟩,.string ⟨y.toArray⟩,iv t.place]) (by simp[results,results71,go_sem,e0,e1,e2]) rfl ⟨_,rfl,rfl,h4.set3 a9 ae _ _ _,((ah.trans (AX _ _ _)).trans (a3.mono (Nat.le_of_lt aa))).set3 (AD _) _ _ _⟩
   .rw[hq] at hT;replace a0:Aside (res=.inr (a,er)):=by
     show _=_;rw[a0.out,hq];rfl
    replace hT:∀w',Ps b ga l2 w'->AA 108 #[pt b 0,iv 1] w' λ e w''=>e=.panicked (Bl a er)/\Fo b w'.heap.size w' w'':=hT
    clear hq;go_wp2_with fail;have a7:∀w4,Fo b w3.drew.heap.size w3.drew w4->Cn b ga w res (λ s v _=>SlV s v) (.panicked (Bl a er)) w4:=λ w4 a3=>by
     rw[a0.out];exact⟨rfl,(ah.trans (AX _ _ _)).trans (a3.mono (Nat.le_of_lt aa))⟩
    go_region_with (go_at_call 108;refine (hT w3.drew (h3.keep rfl rfl (AD _))).mono ?_;rintro e w4 ⟨rfl,a3⟩;refine skip_way w4 ⟨rfl,a7 w4 a3⟩ ?_)
    all_goals trivial
  .rw[show Px.needK 4 [58] l1=_ from hq];rintro e w3 ⟨rfl,a4⟩;refine⟨rfl,?_⟩;rw[a0.out,hq];exact⟨rfl,a8.call a4 a8.size⟩
 .rintro e w1 ⟨rfl,a5⟩;refine⟨rfl,?_⟩;rw[a0.out,Px.slot,hq];exact⟨rfl,a6.call a5 a6.size⟩
def Dd(b ga n:Nat){α:Type}(Inv:List α->World->Prop)(acc:List α)(w:World)(r:Px.R α)(e:Ending)(w':World):Prop:=
 match r with
 | .inl (x,l')=>e=.returned (.tuple #[])/\Inv (acc ++ [x]) w'/\Ps b ga l' w'/\Fo b n w w'
 | .inr (a,er)=>e=.panicked (Bl a er)/\Fo b n w w'
def Z7(b ga n:Nat){α:Type}(Inv:List α->World->Prop)(w:World)(r:Px.R (List α))(e:Ending)(w':World):Prop:=
 match r with
 | .inl (xs,l')=>e=.returned (.tuple #[])/\Inv xs w'/\Ps b ga l' w'/\Fo b n w w'
 | .inr (a,er)=>e=.panicked (Bl a er)/\Fo b n w w'
theorem Ta{α:Type}{q:Px.P α}{n:Nat}{acc:List α}{l:List Lx.Tok}(hn:0<n):Px.items q (f+1) n acc l=if Px.sees 4 [44] l then Px.bind (q l.tail) λ x l2=>Px.items q f (n+1) (acc ++ [x]) l2 else if Px.sees 4 [41] l then .inl (acc,l.tail) else Px.fail 31 l:=by
 simp only[Px.items];rcases h1:Px.sees 4 [41] l with _ | _
 .simp only[Bool.false_eq_true,if_false];rw[Px.sep,if_neg (by omega)];unfold Px.need Px.needK;rcases h2:Px.sees 4 [44] l with _ | _
  .rfl
  .rfl
 .simp only[if_true];rw[if_neg (by rw[Wt h1 (by decide)];simp)]
theorem I6{α:Type}{q:Px.P α}{acc:List α}{l:List Lx.Tok}:Px.items q (f+1) 0 acc l=if Px.sees 4 [41] l then .inl (acc,l.tail) else Px.bind (q l) λ x l2=>Px.items q f 1 (acc ++ [x]) l2:=by
 simp only[Px.items,Px.sep,if_true,Px.bind]
theorem items_fuel{α:Type}{q:Px.P α}(hq:Px.Ok q):∀(f g n:Nat) (acc:List α) (l:List Lx.Tok),Px.Good l->l.length<f->l.length<g->Px.items q f n acc l=Px.items q g n acc l
 | 0,_,_,_,_,_,h,_=>by omega
 | _,0,_,_,_,_,_,h=>by omega
 | f+1,g+1,n,acc,l,hg,h1,h2=>by
  simp only[Px.items];split
  .rfl
  .refine Px.bind_congr λ u l1 e1=>Px.bind_congr λ x l2 e2=>?_
   have a1:=(Px.sep_res hg).ok u l1 e1;have a2:=(hq l1 a1.good).ok x l2 e2;exact items_fuel hq f g (n+1) _ l2 a2.good (by have:=a1.less;have:=a2.less;omega) (by have:=a1.less;have:=a2.less;omega)
theorem I7{α:Type}{n K:Nat}{caps:Array Value}{q:Px.P α}{Inv:List α->World->Prop}{l:List Lx.Tok}(h:Ps b ga l w)(hn:n<=w.heap.size)(a4:Px.Ok q)
  (hK:∀(args:Array Value) (w:World),(callFunc K args).run prog w=.ok (.enter K args) w)
  (hq:∀(acc:List α) (l1:List Lx.Tok) (w1:World),Ps b ga l1 w1->Inv acc w1->n<=w1.heap.size->acc.length+l1.length<=4096->AA K caps w1 λ e w2=>Dd b ga n Inv acc w1 (q l1) e w2)
  (hI:∀(acc:List α) (w1 w2:World),Inv acc w1->Fo b w1.heap.size w1 w2->Inv acc w2) (h0:Inv [] w) :
  AA 109 #[pt b 0,.func (.func K) #[] caps] w λ e w'=>Z7 b ga n Inv w (Px.bind (Px.need [40] l) λ _ l1=>Px.items q (l1.length+1) 0 [] l1) e w':=by
 obtain⟨res,a0⟩:∃res,Aside (res=Px.bind (Px.need [40] l) λ _ l1=>Px.items q (l1.length+1) 0 [] l1):=⟨_,rfl⟩;rw[<-a0.out];go_enter func109,ntmps109;go_wp2_with fail;refine (pneed_any h 4 [40] (by decide) (by decide)).mono ?_;rcases hx:Px.need [40] l with⟨u,l1⟩ | ⟨a,er⟩
 .rw[show Px.needK 4 [40] l=_ from hx];rintro e w1 ⟨v,rfl,rfl,h1,a5⟩;replace a0:Aside (res=Px.items q (l1.length+1) 0 [] l1):=by
   show _=_;rw[a0.out,hx];rfl
  have ae:=a5.mono hn;have i1:=hI _ _ _ h0 a5;have ab:n<=w1.heap.size:=by have:=a5.size;omega
  clear hx a5 h0;rcases hs:Px.sees 4 [41] l1 with _ | _
  .replace a0:Aside (res=Px.bind (q l1) λ x l2=>Px.items q l1.length 1 [x] l2):=by
    show _=_;rw[a0.out,I6,if_neg (by rw[hs];simp)];rfl
   go_wp2_with fail
   refine (A5 h1 [41] hs).mono ?_;rintro e w2 ⟨rfl,h2,a9⟩;have i2:=hI _ _ _ i1 (AW a9);have ai:=ae.below a9 ab;have am:n<=w2.heap.size:=by have:=a9.size;omega
   clear hs a9 i1 ae h1;have hC:=hq [] l1 w2 h2 i2 am (by have:=h2.few;simpa using this);go_wp2_with fail;refine (show AA K caps w2 _ by simpa using hC).mono ?_;rcases hx:q l1 with⟨x,l2⟩ | ⟨a,er⟩
   .rintro e w3 ⟨rfl,i3,h3,a7⟩;have ak:Px.Good l1:=h2.good;have ad:=((a4 l1 ak).ok x l2 hx).less;have au:=h2.few;replace a0:Aside (res=Px.items q (l2.length+1) 1 [x] l2):=by
     show _=_;rw[a0.out,hx];exact items_fuel a4 _ _ _ _ _ ((a4 l1 ak).ok x l2 hx).good (by omega) (by omega)
    have aj:=ai.trans a7;have al:n<=w3.heap.size:=by have:=a7.size;omega
    clear hx hC i2 ai h2 a7 am ab;go_wp2_with fail
    go_loopg [] (l2.length+1) (λ m wr=>∃(acc:List α) (l4:List Lx.Tok) (c:Nat),0<c/\m=l4.length+1/\Ps b ga l4 wr/\Inv acc wr/\Fo b n w wr/\n<=wr.heap.size/\acc.length+l4.length<=4096/\Aside (res=Px.items q (l4.length+1) c acc l4))
    case atStart=>exact⟨[] ++ [x],l2,1,by omega,rfl,h3,i3,aj,al,by simp;omega,a0⟩
    case round=>
     clear a0 h3 i3 aj al;obtain⟨acc,l4,c,hc,rfl,h4,i4,ah,aa,aw,a0⟩:=hrel;replace a0:Aside (res=_):=a0.out.trans (Ta hc);rcases hs4:Px.sees 4 [44] l4 with _ | _
     .go_wp2_with fail
      refine (A5 h4 [44] hs4).mono ?_;rintro e w5 ⟨rfl,h5,af⟩;have i5:=hI _ _ _ i4 (AW af);have a6:=ah.below af aa;have a8:n<=w5.heap.size:=by have:=af.size;omega
      go_wp2_with fail
      refine (pneed_any h5 4 [41] (by decide) (by decide)).mono ?_;rcases hs5:Px.sees 4 [41] l4 with _ | _
      .replace a0:Aside (res=.inr (Px.place l4,31)):=by
        show _=_;rw[a0.out,if_neg (by rw[hs4];simp),if_neg (by rw[hs5];simp)];rfl
       rw[show Px.needK 4 [41] l4=.inr (Px.place l4,31) by unfold Px.needK;rw[if_neg (by rw[hs5];simp)];rfl];rintro e w6 ⟨rfl,a3⟩;refine⟨rfl,?_⟩;rw[a0.out];exact⟨rfl,a6.call a3 a8⟩
      .replace a0:Aside (res=.inl (acc,l4.tail)):=by
        show _=_;rw[a0.out,if_neg (by rw[hs4];simp),if_pos hs5]
       rw[show Px.needK 4 [41] l4=.inl ((),l4.tail) by unfold Px.needK;rw[if_pos hs5]];rintro e w6 ⟨v,rfl,rfl,h6,a3⟩;have i6:=hI _ _ _ i5 a3;go_wp2
       go_end0
       rw[a0.out];exact⟨rfl,i6,h6,a6.call a3 a8⟩
     .replace a0:Aside (res=Px.bind (q l4.tail) λ x l2=>Px.items q l4.length (c+1) (acc ++ [x]) l2):=by
       show _=_;rw[a0.out,if_pos hs4]
      go_wp2_with fail
      refine (Ay h4 [44] (by decide) hs4).mono ?_;rintro e w5 ⟨rfl,h5,ag⟩;have i5:=hI _ _ _ i4 ag;have a6:=ah.call ag aa;have a8:n<=w5.heap.size:=by have:=ag.size;omega
      have av:l4.tail.length+1=l4.length:=by
       obtain⟨t,r,rfl,_⟩:=Px.sees_head hs4;simp
      have hC:=hq acc l4.tail w5 h5 i5 a8 (by omega);clear hs4 h4 i4 ah aa;go_wp2_with fail;refine (show AA K caps w5 _ by simpa using hC).mono ?_;rcases hx:q l4.tail with⟨y,l6⟩ | ⟨a,er⟩
      .rintro e w6 ⟨rfl,i6,h6,a3⟩;have ad:=((a4 l4.tail h5.good).ok y l6 hx).less;replace a0:Aside (res=Px.items q (l6.length+1) (c+1) (acc ++ [y]) l6):=by
        show _=_;rw[a0.out,hx];exact items_fuel a4 _ _ _ _ _ ((a4 l4.tail h5.good).ok y l6 hx).good (by omega) (by omega)
       have ar:n<=w6.heap.size:=by have:=a3.size;omega
       go_wp2_with fail
       go_roundg (l6.length+1)
       case measure=>omega
       case rel=>exact⟨acc ++ [y],l6,c+1,by omega,rfl,h6,i6,a6.trans a3,ar,by simp;omega,a0⟩
      .rintro e w6 ⟨rfl,a3⟩;refine⟨rfl,?_⟩;rw[a0.out,hx];exact⟨rfl,a6.trans a3⟩
   .rintro e w3 ⟨rfl,a7⟩;refine⟨rfl,?_⟩;rw[a0.out,hx];exact⟨rfl,ai.trans a7⟩
  .replace a0:Aside (res=.inl ([],l1.tail)):=by
    show _=_;rw[a0.out,I6,if_pos hs]
   go_wp2_with fail
   refine (Ay h1 [41] (by decide) hs).mono ?_;rintro e w2 ⟨rfl,h2,aq⟩;have i2:=hI _ _ _ i1 aq;go_wp2
   go_end0
   rw[a0.out];exact⟨rfl,i2,h2,ae.call aq ab⟩
 .rw[show Px.needK 4 [40] l=_ from hx];rintro e w1 ⟨rfl,a5⟩;refine⟨rfl,?_⟩;rw[a0.out,hx];exact⟨rfl,a5.mono hn⟩
theorem Bn{base n:Nat}{e:TypeId}(h:w.ownsRow base e sz v n xs)(f:Fo b w.heap.size w w')(hb:b<base):w'.ownsRow base e sz v n xs:=by
 obtain⟨h1,h2⟩:=h;refine⟨h1,?_⟩;rcases h2 with h2 | ⟨g,cap,cur,hv,hg,hh,r⟩
 .exact AI h2
 .exact AJ ⟨g,cap,cur,hv,hg,(f.block g (AB hh).1 (by omega)).trans hh,r⟩
theorem Dg{base n:Nat}{e:TypeId}{B:AS}(h:w.ownsRow base e sz v n xs)(hB:∀g,base<=g->g<w.heap.size->B g):SlRow B w sz v n xs:=by
 obtain⟨h1,h2⟩:=h;refine⟨h1,?_⟩;rcases h2 with h2 | ⟨g,cap,cur,hv,hg,hh,hn,hc,hs,ht⟩
 .exact AI h2
 .have hl:=(AB hh).1;refine AJ ⟨g,0,cap,hv,hn,hc,hB g hg hl,hl,λ j u hj=>?_⟩;rw[Nat.zero_add,Lib.cell_of_heap hh];rw[<-ht,List.getElem?_take] at hj;split at hj
  .simpa using hj
  .simp at hj
theorem C0{w5:World}{o:Obj}{base n:Nat}{e:TypeId}(a0:(w.alloc o).grownBy w5 v.ownBlock)(a3:w.ownsRow base e sz v n xs)(hg:g<base)(hl:g<w.heap.size):w5.heap[g]?=w.heap[g]?:=by
 rw[a0.block g (by simp;omega) (λ e=>by have:=(a3.lt g e.symm).1;omega)];exact Al hl
theorem Z8{w5:World}{o:Obj}{base n:Nat}{e:TypeId}(a0:(w.alloc o).grownBy w5 v.ownBlock)(a3:w.ownsRow base e sz v n xs)(hm:m<=base)(hl:m<=w.heap.size):Fo b m w w5:=
 ⟨a0.os,a0.tape,a0.output,by have:=a0.size;simp at this;omega,λ k h1 _=>C0 a0 a3 (by omega) (by omega)⟩
theorem Qz:(prog.info? 40).map (λ i=>(i.zero,i.size,i.bytes))=some (some (.agg #[sE,sE,iv 0]),3,40):=by kernel_rfl
abbrev Gq(nm:Lx.B)(on:Bool)(ps:Value)(y:Lx.B)(bs:Value)(pl:Nat):Obj:=.cells #[.string ⟨nm.toArray⟩,.bool on,ps,.string ⟨y.toArray⟩,sZ,bs,iv pl] 36 (0,0)
abbrev Cy(b:Nat):Obj:=.cells #[pt b 0] 89 (0,0)
structure FnBox(b gp gf:Nat)(nm:Lx.B)(on:Bool)(pl:Nat)(acc:List Px.Sl)(w:World):Prop where
 ptr:w.heap[gp]?=some (Cy b)
 fn:∃ps,w.heap[gf]?=some (Gq nm on ps [] sZ pl)/\w.ownsRow (gf+1) 40 3 ps acc.length (acc.flatMap Bi)
theorem FnBox.fo{gf:Nat}{nm:Lx.B}{on:Bool}{acc:List Px.Sl}(h:FnBox b gp gf nm on pl acc w)(f:Fo b w.heap.size w w')(h1:b<gp)(h2:gp<gf):FnBox b gp gf nm on pl acc w':=by
 obtain⟨hp,ps,hf,ho⟩:=h;exact⟨(f.block gp (AB hp).1 (by omega)).trans hp,ps,(f.block gf (AB hf).1 (by omega)).trans hf,Bn ho f (by omega)⟩
theorem Tc{n gf:Nat}{nm:Lx.B}{on:Bool}(h1:b<gp)(h2:gp<gf)(ak:ga<gp)(aj:n<=gf)(acc:List Px.Sl)(l:List Lx.Tok)(w:World)(h:Ps b ga l w)(hi:FnBox b gp gf nm on pl acc w)(hn:n<=w.heap.size)(al:acc.length+l.length<=4096) :
  AA 110 #[pt gf 0,pt gp 0] w λ e w'=>Dd b ga n (FnBox b gp gf nm on pl) acc w (Px.slot l) e w':=by
 obtain⟨i0,ai,ad,af,ah⟩:=info_parts Qz;obtain⟨hp,ps,hf,a4⟩:=hi;have a9:gp<w.heap.size:=(AB hp).1;have a8:gf<w.heap.size:=(AB hf).1;have c0:=cell_of_one hp;obtain⟨_,_,c2,_,_,_,_,_,_,k2,_⟩:=A9 hf;obtain⟨ao,cap,rfl⟩:=A3 a4;have hC:∀w',Ps b ga l w'->_:=λ w' h'=>Mt h'
 rcases hq:Px.slot l with⟨s,l'⟩ | ⟨a,er⟩
 .rw[hq] at hC;replace hC:∀w',Ps b ga l w'->AA 71 #[pt b 0] w' λ e w''=>∃v,e=.returned v/\SlV s v/\Ps b ga l' w''/\Fo b w'.heap.size w' w'':=hC
  clear hq;go_enter func110,ntmps110;go_wp2_with fail
  go_region_law (first
   |(refine step_append_lies _ (by rfl) _ _ 23 (by rfl) (gf+1) 40 i0 _ 3 40 underlying23 ai ad af ah rfl (by omega) _ acc.length (acc.flatMap Bi) (by rfl) (a0.alloc _) ⟨w4.heap.size,0,none⟩ 1 1 [.string ⟨s.name.toArray⟩,.string ⟨s.type.toArray⟩,iv s.place] (by rfl) (by rfl) (World.news_of_block (cs:=#[.string ⟨s.name.toArray⟩,.string ⟨s.type.toArray⟩,iv s.place]) (t:=40) (fr:=(0,0)) (heap_new w4 _)) (by simp[Value.oneCell']) (by omega) (by unfold maxLen;omega) (by omega) (by simp;omega) (w4.heap.size+1) (by simp) ?_;intro g cap5 w5 hown5 hgrow hat hlt5;have aa:=(C0 hgrow a0 (Nat.lt_succ_self gf) a7).trans ab;obtain⟨_,_,e2,_,_,_,_,_,_,m2,_⟩:=A9 aa)
   |(go_simp;go_at_call 71;refine (hC w.drew (h.keep rfl rfl (AD _))).mono ?_;rintro e w4 ⟨v,rfl,rfl,h4,a3⟩;have a0:=Bn (w:=w.drew) (w':=w4) a4.drew a3 (by omega);have a7:gf<w4.heap.size:=AL a8 a3.size;have ab:=(a3.block gf a8 (by omega)).trans hf;have y2:=(A9 ab).2.2.1))
  all_goals
   go_wp2
   go_end0
   have ag:Fo b n w w5:=(((AX b n w).trans (a3.mono hn)).trans (Z8 hgrow a0 (by omega) (by have:=a3.size;have hx:w.heap.size<=w4.heap.size:=this;omega)));have a6:gp<w4.heap.size:=AL a9 a3.size;have ae:w5.heap[gp]?=some (Cy b):=(C0 hgrow a0 (by omega) a6).trans ((a3.block gp a9 (by omega)).trans hp);have h5:Ps b ga l' w5:=h4.keep (C0 hgrow a0 (by omega) h4.there) (C0 hgrow a0 (by omega) h4.gl) (by have:=hgrow.size;simp at this;omega);refine⟨rfl,⟨?_,sL g 0 (acc.length+1) cap5,?_,?_⟩,h5.other 2 _ (by omega) (by omega),ag.fresh (by omega) 2 _⟩
   .exact (AG _ _ _ _ (by show gp≠gf;omega)).trans ae
   .exact (by simp[World.setCell,Array.getElem?_modify,aa])
   .have:=ownsRow_setCell_below hown5 (a:=⟨gf,2,none⟩) (by show gf<gf+1;omega) (sL g 0 (acc.length+1) cap5);simpa [Bi] using this
 .rw[hq] at hC;replace hC:∀w',Ps b ga l w'->AA 71 #[pt b 0] w' λ e w''=>e=.panicked (Bl a er)/\Fo b w'.heap.size w' w'':=hC
  have a5:∀w4,Fo b w.drew.heap.size w.drew w4->Dd b ga n (FnBox b gp gf nm on pl) acc w (.inr (a,er)) (.panicked (Bl a er)) w4:=λ w4 a3=>⟨rfl,(AX b n w).trans (a3.mono hn)⟩
  clear hq;go_enter func110,ntmps110;go_wp2_with fail
  go_region_law (go_simp;go_at_call 71;refine (hC w.drew (h.keep rfl rfl (AD _))).mono ?_;rintro e w4 ⟨rfl,a3⟩;refine skip_way w4 ⟨rfl,a5 w4 a3⟩ ?_)
  all_goals trivial
theorem Bv{t:AQ}(h:¬t=x):(t == x)=false:=by simpa using h
def Z9(x:Lx.B):Nat × Nat:=Px.levelOf ⟨4,x,0,0⟩
theorem Aj0{t:Lx.Tok}(h:t.kind=4):Px.levelOf t=Z9 t.text:=by
 obtain⟨k,x,m,p⟩:=t;simp only at h;subst h;rfl
theorem Xa(t:Lx.B)(w:World):AA 226 #[.string ⟨t.toArray⟩] w λ r w'=>r=.returned (.tuple #[iv ((Z9 t).2:Nat),iv ((Z9 t).1 - 1:Nat)])/\w'=w:=by
 by_cases h0:t=[124,124]
 .subst h0;go_enter func226,ntmps226;go_wp2
  go_ret2
  exact⟨rfl,rfl⟩
 by_cases h1:t=[38,38]
 .subst h1;go_enter func226,ntmps226;go_wp2
  go_ret2
  exact⟨rfl,rfl⟩
 by_cases h2:t=[61,61]
 .subst h2;go_enter func226,ntmps226;go_wp2
  go_ret2
  exact⟨rfl,rfl⟩
 by_cases h3:t=[33,61]
 .subst h3;go_enter func226,ntmps226;go_wp2
  go_ret2
  exact⟨rfl,rfl⟩
 by_cases h4:t=[60]
 .subst h4;go_enter func226,ntmps226;go_wp2
  go_ret2
  exact⟨rfl,rfl⟩
 by_cases h5:t=[60,61]
 .subst h5;go_enter func226,ntmps226;go_wp2
  go_ret2
  exact⟨rfl,rfl⟩
 by_cases h6:t=[62]
 .subst h6;go_enter func226,ntmps226;go_wp2
  go_ret2
  exact⟨rfl,rfl⟩
 by_cases h7:t=[62,61]
 .subst h7;go_enter func226,ntmps226;go_wp2
  go_ret2
  exact⟨rfl,rfl⟩
 by_cases h8:t=[43]
 .subst h8;go_enter func226,ntmps226;go_wp2
  go_ret2
  exact⟨rfl,rfl⟩
 by_cases h9:t=[45]
 .subst h9;go_enter func226,ntmps226;go_wp2
  go_ret2
  exact⟨rfl,rfl⟩
 by_cases a0:t=[42]
 .subst a0;go_enter func226,ntmps226;go_wp2
  go_ret2
  exact⟨rfl,rfl⟩
 by_cases a4:t=[47]
 .subst a4;go_enter func226,ntmps226;go_wp2
  go_ret2
  exact⟨rfl,rfl⟩
 by_cases a3:t=[37]
 .subst a3;go_enter func226,ntmps226;go_wp2
  go_ret2
  exact⟨rfl,rfl⟩
 have hl:Z9 t=(0,0):=by simp[Z9,Px.levelOf,h0,h1,h2,h3,h4,h5,h6,h7,h8,h9,a0,a4,a3]
 rw[hl];replace h0:=Bv h0;replace h1:=Bv h1;replace h2:=Bv h2;replace h3:=Bv h3;replace h4:=Bv h4;replace h5:=Bv h5;replace h6:=Bv h6;replace h7:=Bv h7;replace h8:=Bv h8;replace h9:=Bv h9;replace a0:=Bv a0;replace a4:=Bv a4;replace a3:=Bv a3;clear hl;go_enter func226,ntmps226;go_wp2
 go_ret2
 exact⟨rfl,rfl⟩
def opAt(n:Nat)(t:Lx.Tok):Nat:=if (Px.levelOf t).1=n+1 then (Px.levelOf t).2 else 0
theorem Td(t:Lx.Tok)(p:Nat × Nat)(h:Px.levelOf t=p):(p.1=0->p.2=0)/\(p.1≠0->p.2≠0)/\p.1<=5/\p.2<=13:=by
 by_cases hk:t.kind=4
 rotate_left
 .have e:Px.levelOf t=(0,0):=by unfold Px.levelOf;rw[if_neg hk]
  rw[e] at h;rw[<-h];decide
 by_cases h0:t.text=[124,124]
 .have e:Px.levelOf t=(1,1):=by simp[Px.levelOf,hk,h0]
  rw[e] at h;rw[<-h];decide
 by_cases h1:t.text=[38,38]
 .have e:Px.levelOf t=(2,2):=by simp[Px.levelOf,hk,h1]
  rw[e] at h;rw[<-h];decide
 by_cases h2:t.text=[61,61]
 .have e:Px.levelOf t=(3,3):=by simp[Px.levelOf,hk,h2]
  rw[e] at h;rw[<-h];decide
 by_cases h3:t.text=[33,61]
 .have e:Px.levelOf t=(3,4):=by simp[Px.levelOf,hk,h3]
  rw[e] at h;rw[<-h];decide
 by_cases h4:t.text=[60]
 .have e:Px.levelOf t=(3,5):=by simp[Px.levelOf,hk,h4]
  rw[e] at h;rw[<-h];decide
 by_cases h5:t.text=[60,61]
 .have e:Px.levelOf t=(3,6):=by simp[Px.levelOf,hk,h5]
  rw[e] at h;rw[<-h];decide
 by_cases h6:t.text=[62]
 .have e:Px.levelOf t=(3,7):=by simp[Px.levelOf,hk,h6]
  rw[e] at h;rw[<-h];decide
 by_cases h7:t.text=[62,61]
 .have e:Px.levelOf t=(3,8):=by simp[Px.levelOf,hk,h7]
  rw[e] at h;rw[<-h];decide
 by_cases h8:t.text=[43]
 .have e:Px.levelOf t=(4,9):=by simp[Px.levelOf,hk,h8]
  rw[e] at h;rw[<-h];decide
 by_cases h9:t.text=[45]
 .have e:Px.levelOf t=(4,10):=by simp[Px.levelOf,hk,h9]
  rw[e] at h;rw[<-h];decide
 by_cases h10:t.text=[42]
 .have e:Px.levelOf t=(5,11):=by simp[Px.levelOf,hk,h10]
  rw[e] at h;rw[<-h];decide
 by_cases h11:t.text=[47]
 .have e:Px.levelOf t=(5,12):=by simp[Px.levelOf,hk,h11]
  rw[e] at h;rw[<-h];decide
 by_cases h12:t.text=[37]
 .have e:Px.levelOf t=(5,13):=by simp[Px.levelOf,hk,h12]
  rw[e] at h;rw[<-h];decide
 have e:Px.levelOf t=(0,0):=by simp[Px.levelOf,h0,h1,h2,h3,h4,h5,h6,h7,h8,h9,h10,h11,h12]
 rw[e] at h;rw[<-h];decide
theorem Aj1(t:Lx.Tok):(Px.levelOf t).1=0->(Px.levelOf t).2=0:=(Td t _ rfl).1
theorem Vh(t:Lx.Tok):(Px.levelOf t).1≠0->(Px.levelOf t).2≠0:=(Td t _ rfl).2.1
theorem Ou(t:Lx.Tok):(Px.levelOf t).1<=5/\(Px.levelOf t).2<=13:=(Td t _ rfl).2.2
theorem Gr{t:Lx.Tok}{r:List Lx.Tok}(h:Ps b ga (t :: r) w)(n:Nat)(hn:n<=5) :
  AA 217 #[pt b 0,iv n] w λ e w'=>e=.returned (iv (opAt n t:Nat))/\Below w.heap.size w w':=by
 have hN:=B9 h;have a9:=Zl;have ab:=U7;by_cases hk:t.kind=4
 .have a7:((t.kind:Int) != 4)=false:=by simp;omega
  have a6:=Aj0 hk;have aa:=(Ou t).1;have hO:=Xa t.text;rw[<-a6] at hO;have a3:=Aj1 t;by_cases hl:(Px.levelOf t).1 - 1=n
  .have a8:((((Px.levelOf t).1 - 1:Nat):Int) != (n:Int))=false:=by simp;omega
   have a0:opAt n t=(Px.levelOf t).2:=by
    unfold opAt;by_cases h1:(Px.levelOf t).1=n+1
    .rw[if_pos h1]
    .rw[if_neg h1,a3 (by omega)]
   rw[a0];clear a0 a3 a6 hk hl;generalize (Px.levelOf t).1 - 1=lv at *;generalize (Px.levelOf t).2=op at *;go_enter func217,ntmps217;go_wp2_with fail;refine hN.mono ?_;rintro e w1 ⟨rfl,a4⟩;have h1:=h.below a4;go_wp2_with fail;refine (B9 h1).mono ?_;rintro e w2 ⟨rfl,a5⟩;go_wp2_with fail;refine (hO w2).mono ?_;rintro e w3 ⟨rfl,rfl⟩;go_wp2;go_ret;exact⟨rfl,a4.trans (a5.mono a4.size)⟩
  .have a8:((((Px.levelOf t).1 - 1:Nat):Int) != (n:Int))=true:=by simp;omega
   have a0:opAt n t=0:=by
    unfold opAt;rw[if_neg (by omega)]
   rw[a0];clear a0 a3 a6 hk hl;generalize (Px.levelOf t).1 - 1=lv at *;generalize (Px.levelOf t).2=op at *;go_enter func217,ntmps217;go_wp2_with fail;refine hN.mono ?_;rintro e w1 ⟨rfl,a4⟩;have h1:=h.below a4;go_wp2_with fail;refine (B9 h1).mono ?_;rintro e w2 ⟨rfl,a5⟩;go_wp2_with fail;refine (hO w2).mono ?_;rintro e w3 ⟨rfl,rfl⟩;go_wp2;go_ret;exact⟨rfl,a4.trans (a5.mono a4.size)⟩
 .have a7:((t.kind:Int) != 4)=true:=by simp;omega
  have a0:opAt n t=0:=by
   unfold opAt Px.levelOf;rw[if_neg hk];simp
  rw[a0];clear a0 hk;go_enter func217,ntmps217;go_wp2_with fail;refine hN.mono ?_;rintro e w1 ⟨rfl,a4⟩;go_wp2;go_ret;exact⟨rfl,a4⟩
abbrev eV(k o n:Nat)(t:Lx.B)(sl:Value)(p:Nat):Value:=.agg #[iv k,iv o,iv n,.string ⟨t.toArray⟩,iv 0,sE,sl,iv p]
abbrev eL(k o n:Nat)(t:Lx.B)(sl:Value)(p:Nat):List Value:=[iv k,iv o,iv n,.string ⟨t.toArray⟩,iv 0,sE,sl,iv p]
abbrev eO(k o n:Nat)(t:Lx.B)(sl:Value)(p:Nat):Obj:=.cells #[iv k,iv o,iv n,.string ⟨t.toArray⟩,iv 0,sE,sl,iv p] 48 (0,0)
abbrev zeroE:Obj:=eO 0 0 0 [] sZ 0
abbrev eS(w:World)(g k o n:Nat)(t:Lx.B)(sl:Value)(p:Nat):World:=w8 w g (iv k) (iv o) (iv n) (.string ⟨t.toArray⟩) (iv 0) sE sl (iv p)
def ExV(B:AS)(w:World)(x:Px.Ex)(v:Value):Prop:=∃k o n t ao an ac p,v=eV k o n t (.slice ao an ac) p/\IsEx B w x (eL k o n t (.slice ao an ac) p)
theorem plow{B:AS}{n:Nat}{row:AR}(hb:∀k,B k->k<w.heap.size->B' k)(h:SlRow B w sz v n row):SlRow B' w sz v n row:=by
 obtain⟨h1,h2⟩:=h;refine⟨h1,?_⟩;rcases h2 with h2 | ⟨g,o,cap,hv,hc,hm,hB,hg,r⟩
 .exact AI h2
 .exact AJ ⟨g,o,cap,hv,hc,hm,hb _ hB hg,hg,r⟩
mutual
theorem IsEx.plow{B B':AS}{w:World}(hb:∀k,B k->k<w.heap.size->B' k):∀{e:Px.Ex} {cs:AR},IsEx B w e cs->IsEx B' w e cs
 | .mk k o n t args p,cs,h=>by
  rw[IsEx] at h ⊢;obtain⟨sl,row,hc,hr,ha⟩:=h;exact⟨sl,row,hc,Go.Proofs.YtpckmjfabiallaaGreatDoor.plow hb hr,Aj.plow hb ha⟩
theorem Aj.plow{B B':AS}{w:World}(hb:∀k,B k->k<w.heap.size->B' k):∀{l:List Px.Ex} {cs:AR},Aj B w l cs->Aj B' w l cs
 | [],cs,h=>by rw[Aj] at h ⊢;exact h
 | e :: r,cs,h=>by
  rw[Aj] at h ⊢;obtain⟨c1,c2,hc,h1,h2⟩:=h;exact⟨c1,c2,hc,IsEx.plow hb h1,Aj.plow hb h2⟩
end
theorem Ht(B:AS)(w:World)(k o n:Nat)(t:Lx.B)(p:Nat):IsEx B w (.mk k o n t [] p) (eL k o n t sZ p):=by
 rw[IsEx];exact⟨_,[],rfl,⟨rfl,AI ⟨rfl,rfl⟩⟩,by rw[Aj]⟩
theorem Ap4{B:AS}{gs k:Nat}{x:Px.Ex}{cx:AR}(hB:B gs)(hg:gs<w.heap.size)(hc:∀(j:Nat) (u:Value),cx[j]?=some u->w.cell? ⟨gs,j,none⟩=some u)(hx:IsEx B w x cx) :
  IsEx B w (.mk k 0 0 [] [x] p) (eL k 0 0 [] (sL gs 0 1 1) p):=by
 have lx:=hx.len;rw[IsEx];refine⟨sL gs 0 1 1,cx,rfl,⟨by simpa using lx,AJ ⟨gs,0,1,rfl,AD _,by unfold maxLen;omega,hB,hg,λ j u hj=>by rw[Nat.zero_add];exact hc j u hj⟩⟩,?_⟩;rw[Aj];exact⟨cx,[],by simp,hx,by rw[Aj]⟩
theorem Aa0{B:AS}{gs k op:Nat}{x y:Px.Ex}{cx cy:AR}(hB:B gs)(hg:gs<w.heap.size)(hc:∀(j:Nat) (u:Value),(cx ++ cy)[j]?=some u->w.cell? ⟨gs,j,none⟩=some u)(hx:IsEx B w x cx)(hy:IsEx B w y cy) :
  IsEx B w (.mk k op 0 [] [x,y] p) (eL k op 0 [] (sL gs 0 2 2) p):=by
 have lx:=hx.len;have ly:=hy.len;rw[IsEx];refine⟨sL gs 0 2 2,cx ++ cy,rfl,⟨by simp;omega,AJ ⟨gs,0,2,rfl,AD _,by unfold maxLen;omega,hB,hg,λ j u hj=>by rw[Nat.zero_add];exact hc j u hj⟩⟩,?_⟩;rw[Aj];refine⟨cx,cy,rfl,hx,?_⟩;rw[Aj];exact⟨cy,[],by simp,hy,by rw[Aj]⟩
theorem Kl{a:Array Value}(h:w.heap[g]?=some (.cells a T (0,0)))(hv:a[j]?=some v):w.cell? ⟨g,j,none⟩=some v:=by
 simp[World.cell?,h,hv]
abbrev Cz(b ga:Nat)(w:World)(r:Px.R Px.Ex)(e:Ending)(w':World):Prop:=Cn b ga w r (λ x v w'=>ExV (From w.heap.size) w' x v) e w'
theorem Aa1{k o n:Nat}{t:Lx.B}{k' o' n' p':Nat}{t':Lx.B}{a0:Value}(h:w.heap[g]?=some (eO k' o' n' t' a0 p')):(eS w g k o n t sl p).heap[g]?=some (eO k o n t sl p):=An6 h _ _ _ _ _ _ _ _
theorem Aa2{k o n:Nat}{t:Lx.B}(h:j≠g):(eS w g k o n t sl p).heap[j]?=w.heap[j]?:=Hj h _ _ _ _ _ _ _ _
theorem Ov(w:World)(g k o n p:Nat)(t:Lx.B)(sl:Value):(eS w g k o n t sl p).heap.size=w.heap.size:=Oa _ _ _ _ _ _ _ _ _ _
theorem Am2(w:World)(g k o n p:Nat)(t:Lx.B)(sl:Value)(m:Nat):Fo g m w (eS w g k o n t sl p):=((((((((Fo.set 0 _).trans (Fo.set 1 _)).trans (Fo.set 2 _)).trans (Fo.set 3 _)).trans (Fo.set 4 _)).trans (Fo.set 5 _)).trans (Fo.set 6 _)).trans (Fo.set 7 _))
theorem Aj2{P:AS}{wD wX wF:World}{g7 k o nn k2 o2 n2 p2 kk op:Nat}{t t2:Lx.B}{sl2:Value}{a:Obj}(hP:P (wD.heap.size+1))(a7:¬P g7)(a5:wX.heap.size=wD.heap.size)(a8:g7<wD.heap.size)
  (hfo:Fo g7 wD.heap.size wD wX) (hblk:wX.heap[g7]?=some (eO kk op 0 [] (sL (wD.heap.size+1) 0 2 2) pl))
  (hwF:wF=(wX.alloc a).alloc (.cells (eL k o nn t sl p ++ eL k2 o2 n2 t2 sl2 p2).toArray 48 (0,0))) :
  wF.heap[g7]?=some (eO kk op 0 [] (sL (wD.heap.size+1) 0 2 2) pl)/\Fo g7 wD.heap.size wD wF/\wF.heap.size=wD.heap.size+2/\∀x y,IsEx P wD x (eL k o nn t sl p)->IsEx P wD y (eL k2 o2 n2 t2 sl2 p2)->IsEx P wF (.mk kk op 0 [] [x,y] pl) (eL kk op 0 [] (sL (wD.heap.size+1) 0 2 2) pl):=by
 have hb:Below wX.heap.size wX wF:=by
  rw[hwF];exact ((AF _ _).alloc (AD _) _).alloc (by simp) _
 have a3:wF.heap[wD.heap.size+1]?=some (.cells (eL k o nn t sl p ++ eL k2 o2 n2 t2 sl2 p2).toArray 48 (0,0)):=by
  rw[hwF,show wD.heap.size+1=(wX.alloc a).heap.size by simp[a5]];exact heap_new _ _
 have a4:wF.heap.size=wD.heap.size+2:=by rw[hwF];simp[a5]
 clear hwF;have a6:wD.heap.size+1<wF.heap.size:=by omega
 have a0:Since P wD wF:=⟨by omega,λ kk h1 h2=>(hb.block kk (by omega)).trans (hfo.block kk h2 (λ e=>a7 (by rw[<-e];exact h1)))⟩;exact⟨(hb.block g7 (by omega)).trans hblk,hfo.trans (AW (hb.mono (by omega))),a4,λ x y hx hy=>Aa0 hP a6 (λ j v hj=>Kl a3 (by rw[List.getElem?_toArray];exact hj)) (hx.since a0) (hy.since a0)⟩
theorem Vi{P:AS}{wD wF:World}{g7 k o nn k2 o2 n2 p2 kk op:Nat}{t t2:Lx.B}{sl2:Value}(hP:P (wD.heap.size+1))(a0:¬P g7)(h7:wD.heap[g7]?=some (eO k o nn t sl p))
  (hwF:wF=((eS wD g7 kk op 0 [] (sL (wD.heap.size+1) 0 2 2) pl).alloc (eO k2 o2 n2 t2 sl2 p2)).alloc (.cells (eL k o nn t sl p ++ eL k2 o2 n2 t2 sl2 p2).toArray 48 (0,0))) :
  wF.heap[g7]?=some (eO kk op 0 [] (sL (wD.heap.size+1) 0 2 2) pl)/\Fo g7 wD.heap.size wD wF/\wF.heap.size=wD.heap.size+2/\∀x y,IsEx P wD x (eL k o nn t sl p)->IsEx P wD y (eL k2 o2 n2 t2 sl2 p2)->IsEx P wF (.mk kk op 0 [] [x,y] pl) (eL kk op 0 [] (sL (wD.heap.size+1) 0 2 2) pl):=
 Aj2 hP a0 (Ov _ _ _ _ _ _ _ _) (AB h7).1 (Am2 _ _ _ _ _ _ _ _ _) (Aa1 h7) hwF
theorem Dp{x:Px.Ex}{l':List Lx.Tok}{k o n:Nat}{t:Lx.B}{ao:Option Addr}{an ac:Nat}{B:AS}(h1:Ps b ga l' w1)(hF:Fo b w.heap.size w w1)(hg:w.heap.size≠b)(a0:w.heap.size≠ga)(hx:IsEx B w1 x (eL k o n t (.slice ao an ac) p))(hB:∀g,B g->w.heap.size<g) :
  Cz b ga w (.inl (x,l')) (.returned (eV k o n t (.slice ao an ac) p)) (eS w1 w.heap.size k o n t (.slice ao an ac) p):=
 ⟨_,rfl,⟨k,o,n,t,ao,an,ac,p,rfl,(hx.since (Since.set8' (λ h=>by have:=hB _ h;omega) _ _ _ _ _ _ _ _)).base (λ g h=>Nat.le_of_lt (hB g h))⟩,h1.set8 hg a0 _ _ _ _ _ _ _ _,hF.set8 (AD _) _ _ _ _ _ _ _ _⟩
def Gt(n d:Nat)(q:Px.P Px.Ex):Prop:=∀(b ga:Nat) (l:List Lx.Tok) (w:World),Ps b ga l w->AA 191 #[pt b 0,iv n,iv d] w λ e w'=>Cz b ga w (q l) e w'
def Xb(d:Nat)(q:Px.P Px.Ex):Prop:=∀(b ga:Nat) (l:List Lx.Tok) (w:World),Ps b ga l w->AA 216 #[pt b 0,iv d] w λ e w'=>Cz b ga w (q l) e w'
theorem Du(w:World):(w.alloc zeroE).heap[w.heap.size]?=some zeroE:=heap_new w _
theorem Xc{q:Px.P Px.Ex}(hu:Xb d q):Gt 5 d q:=by
 intro b ga l w h;obtain⟨res,a0⟩:∃res,Aside (res=q l):=⟨_,rfl⟩;rw[<-a0.out];have a8:w.heap.size≠b:=by have:=h.there;omega
 have a6:w.heap.size≠ga:=by have:=h.gl;omega
 have h0:=h.alloc zeroE;have a9:=Du w;have a4:Fo b w.heap.size w (w.alloc zeroE):=(AV _ _ _).alloc (AD _) _;have a7:w.heap.size<(w.alloc zeroE).heap.size:=by simp
 have hC:=hu b ga l _ h0;go_enter func191,ntmps191;go_wp2_with fail;generalize w.alloc zeroE=w0 at *;refine hC.mono ?_;rcases hq:q l with⟨x,l1⟩ | ⟨a,er⟩
 .rintro e w1 ⟨v,rfl,⟨k,o,n,t,ao,an,ac,p,rfl,hx⟩,h1,a3⟩;have ab:=(a3.block _ a7 a8).trans a9;have ad:w.heap.size<w1.heap.size:=by have:=a3.size;omega
  have aa:=a4.call a3 a4.size;obtain⟨e0,e1,e2,e3,e4,e5,e6,e7,m0,m1,m2,m3,m4,m5,m6,m7⟩:=Ab ab;have a5:=Dp h1 aa a8 a6 hx (λ g hg=>AL a7 hg);rw[<-a0.out] at hq;replace hq:=(show Aside _ from hq);clear hC;go_wp2;rw[hq.out];exact bodyPost_ret (by simp[results,results191,go_sem,e0,e1,e2,e3,e4,e5,e6,e7]) rfl a5
 .rintro e w1 ⟨rfl,a3⟩;refine⟨rfl,?_⟩;rw[a0.out,hq];exact⟨rfl,a4.call a3 a4.size⟩
theorem chain_fuel{n:Nat}{q:Px.P Px.Ex}(hn:0<n)(hq:Px.Ok q):∀(f g c:Nat) (acc:Px.Ex) (l:List Lx.Tok),Px.Good l->l.length<f->l.length<g->Px.chain n q f c acc l=Px.chain n q g c acc l
 | 0,_,_,_,_,_,h,_=>by omega
 | _,0,_,_,_,_,_,h=>by omega
 | f+1,g+1,c,acc,[],hg,_,_=>by exact absurd hg (by simp[Px.Good])
 | f+1,g+1,c,acc,t :: r,hg,h1,h2=>by
  simp only[Px.chain];by_cases hl:(Px.levelOf t).1=n
  .rw[if_pos hl,if_pos hl];split
   .rfl
   .have hk:=Px.level_kind (t:=t) (by omega);have a0:=hg.tail (by omega);refine Px.bind_congr λ x l1 e1=>?_
    have a1:=(hq r a0).ok x l1 e1;have:=a1.less;simp only[length_cons] at h1 h2;exact chain_fuel hn hq f g (c+1) _ l1 a1.good (by omega) (by omega)
  .rw[if_neg hl,if_neg hl]
structure BinAt(b ga g7:Nat)(w:World)(acc:Px.Ex)(l:List Lx.Tok)(wr:World):Prop where
 ps:Ps b ga l wr
 box:∃k o n t ao an ac p,wr.heap[g7]?=some (eO k o n t (.slice ao an ac) p)/\IsEx (λ g=>w.heap.size<g/\g≠g7) wr acc (eL k o n t (.slice ao an ac) p)
 out:wr.heap[w.heap.size]?=some zeroE
 fo:Fo b w.heap.size w wr
theorem E3{n:Nat}{q:Px.P Px.Ex}(hn:n<=4)(c4:n≠2)(hd:d<=30)(ar:Px.Ok q)(b6:Gt (n+1) d q):Gt n d (Px.level (n+1) q):=by
 intro b ga l w h;obtain⟨res,a0⟩:∃res,Aside (res=Px.level (n+1) q l):=⟨_,rfl⟩;rw[<-a0.out];have au:w.heap.size≠b:=by have:=h.there;omega
 have b0:w.heap.size≠ga:=by have:=h.gl;omega
 have h0:=h.alloc zeroE;have ba:=Du w;have aj:Fo b w.heap.size w (w.alloc zeroE):=(AV _ _ _).alloc (AD _) _;have b8:w.heap.size<(w.alloc zeroE).heap.size:=by simp
 have af:∀(l:List Lx.Tok) (w:World),Ps b ga l w->AA 191 #[pt b 0,iv ((n:Int)+1),iv d] w λ e w'=>Cz b ga w (q l) e w':=λ l w h=>b6 b ga l w h
 have c3:((n:Int) == 5)=false:=by simp;omega
 have br:((n:Int) == 2)=false:=by simp;omega
 have c1:(n:Int)<=4:=by omega
 go_enter func191,ntmps191;go_wp2_with fail;generalize w.alloc zeroE=w0 at *;refine (af l w0 h0).mono ?_;rcases hq:q l with⟨x,l1⟩ | ⟨a,er⟩
 .rintro e w1 ⟨v,rfl,⟨k,o,nn,t,ao,an,ac,p,rfl,hx⟩,h1,ai⟩;have ax:=((ar l h0.good).ok x l1 hq).good;replace a0:Aside (res=Px.chain (n+1) q (l1.length+1) 0 x l1):=by
   show _=_;rw[a0.out,Px.level,hq];rfl
  have b9:w.heap.size<w1.heap.size:=by have:=ai.size;omega
  have hA:BinAt b ga w1.heap.size w x l1 (w1.alloc (eO k o nn t (.slice ao an ac) p)):=by
   refine⟨h1.alloc _,⟨k,o,nn,t,ao,an,ac,p,heap_new w1 _,?_⟩,(Al b9).trans ((ai.block _ b8 au).trans ba),(aj.call ai aj.size).alloc (Nat.le_of_lt b9) _⟩;exact (hx.plow (λ g hg hlt=>⟨AL b8 hg,Nat.ne_of_lt hlt⟩)).since (Since.of_below ((AF _ _).alloc (AD _) _))
  have al:w1.heap.size≠b:=by have:=h1.there;omega
  have bg:w1.heap.size≠ga:=by have:=h1.gl;omega
  clear hq ba aj ai h0 hx h1 ax;go_wp2_with fail;generalize w1.alloc (eO k o nn t (.slice ao an ac) p)=w2 at *;generalize w1.heap.size=g7 at *
  go_loopg [] (l1.length+1) (λ m wr=>∃(acc:Px.Ex) (l4:List Lx.Tok) (c:Nat),m=l4.length+1/\BinAt b ga g7 w acc l4 wr/\Aside (res=Px.chain (n+1) q (l4.length+1) c acc l4))
  case atStart=>exact⟨x,l1,0,rfl,hA,a0⟩
  case round=>
   clear a0 hA;obtain⟨acc,l4,c,rfl,hA,a0⟩:=hrel;obtain⟨u,rr,rfl,_⟩:=hA.ps.head;have hO:=Gr hA.ps n (by omega);by_cases hlv:(Px.levelOf u).1=n+1
   .have am:opAt n u=(Px.levelOf u).2:=by unfold opAt;rw[if_pos hlv]
    have bt:=Vh u (by omega);have bc:=(Ou u).2;rw[am] at hO;replace a0:Aside (res=Px.bind (q rr) λ x l1=>Px.chain (n+1) q (rr.length+1) (c+1) (.mk 15 (Px.levelOf u).2 0 [] [acc,x] u.place) l1):=by
     show _=_;rw[a0.out];simp only[Px.chain,length_cons];rw[if_pos hlv,if_neg (by omega)]
    have bs:u.kind≠5:=by have:=Px.level_kind (t:=u) (by omega);omega
    clear am hlv;generalize (Px.levelOf u).2=op at *;have bb:((op:Int) == 0)=false:=by simp;omega
    go_wp2_with fail
    refine hO.mono ?_;rintro e w3 ⟨rfl,a3⟩;have be:=hA.ps.below a3;have bo:=Qn;go_wp2_with fail;refine (ptake_any be bs).mono ?_;rintro e w4 ⟨rfl,av,ah⟩;have bq:Fo b w3.heap.size w3 w4:=ah;have az:w.heap.size<wr.heap.size:=(AB hA.out).1;obtain⟨k,o,nn,t,ao,an,ac,p,a4,a7⟩:=hA.box;have b5:g7<wr.heap.size:=(AB a4).1;have a5:=(ah.block g7 (by have:=a3.size;omega) al).trans ((a3.block g7 b5).trans a4);have a6:=(ah.block _ (by have:=a3.size;omega) au).trans ((a3.block _ az).trans hA.out);have bf:¬(w.heap.size<b/\b≠g7):=by have:=h.there;omega
    have ad:=(a7.since (Since.of_below a3)).since (ah.sinceB bf);have ak:=(hA.fo.below a3 hA.fo.size).call ah (by have:=a3.size;have:=hA.fo.size;omega);clear a3 ah bq a4 a7 hO be hA;go_wp2_with fail;refine (af rr w4 av).mono ?_;rcases hqr:q rr with⟨y,l6⟩ | ⟨a,er⟩
    .rintro e w5 ⟨v,rfl,⟨k2,o2,n2,t2,bx,bj,bl,p2,rfl,hy⟩,ay,ag⟩;have c2:=((ar rr av.good).ok y l6 hqr).less;have bh:=((ar rr av.good).ok y l6 hqr).good;replace a0:Aside (res=Px.chain (n+1) q (l6.length+1) (c+1) (.mk 15 op 0 [] [acc,y] u.place) l6):=by
      show _=_;rw[a0.out,hqr];exact chain_fuel (by omega) ar _ _ _ _ _ bh (by omega) (by omega)
     have b7:g7<w4.heap.size:=(AB a5).1;have b4:w.heap.size<w4.heap.size:=(AB a6).1;have a8:=(ag.block g7 b7 al).trans a5;have ae:=(ag.block _ b4 au).trans a6;have aq:=ad.since (ag.sinceB bf);have bk:=hy.plow (B':=λ g=>w.heap.size<g/\g≠g7) (λ g hg _=>by have c0:w4.heap.size<=g:=hg;omega);have bi:=ak.call ag ak.size;have bv:g7<w5.heap.size:=(AB a8).1;have aw:w.heap.size<w5.heap.size:=(AB ae).1;obtain⟨y0,y1,y2,y3,y4,y5,y6,y7,j0,j1,j2,j3,j4,j5,j6,j7⟩:=Ab a8;clear ag hqr ad a5 a6 hy ak av;go_wp2;obtain⟨bp,a9,c5,bw⟩:=Vi (P:=λ g=>w.heap.size<g/\g≠g7) (kk:=15) (op:=op) (pl:=u.place) (k2:=k2) (o2:=o2) (n2:=n2) (p2:=p2) (t2:=t2) (sl2:=.slice bx bj bl) (by omega) (λ hh=>hh.2 rfl) a8 rfl;go_roundg (l6.length+1)
     case measure=>simp only[length_cons];omega
     case rel=>
      refine⟨_,l6,c+1,rfl,⟨?_,⟨15,op,0,[],_,2,2,u.place,bp,bw acc y aq bk⟩,?_,?_⟩,a0⟩
      .exact ay.keep (a9.block _ ay.there (by omega)) (a9.block _ ay.gl (by omega)) a9.size
      .exact (a9.block _ aw (by omega)).trans ae
      .exact bi.trans ⟨a9.os,a9.tape,a9.output,a9.size,λ j h1 h2=>a9.block j (by omega) (by omega)⟩
    .rintro e w5 ⟨rfl,ag⟩;refine⟨rfl,?_⟩;rw[a0.out,hqr];exact⟨rfl,ak.call ag ak.size⟩
   .have am:opAt n u=0:=by unfold opAt;rw[if_neg hlv]
    rw[am] at hO;replace a0:Aside (res=.inl (acc,u :: rr)):=by
     show _=_;rw[a0.out];simp only[Px.chain];rw[if_neg hlv]
    clear am hlv;go_wp2_with fail;refine hO.mono ?_;rintro e w3 ⟨rfl,a3⟩;have az:w.heap.size<wr.heap.size:=(AB hA.out).1;obtain⟨k,o,nn,t,ao,an,ac,p,a4,a7⟩:=hA.box;have b5:g7<wr.heap.size:=(AB a4).1;have aa:=(a3.block g7 b5).trans a4;have ab:=(a3.block _ az).trans hA.out;have bu:g7<w3.heap.size:=(AB aa).1;have bn:w.heap.size<w3.heap.size:=(AB ab).1;have b3:=Dp (hA.ps.below a3) (hA.fo.below a3 hA.fo.size) au b0 (a7.since (Since.of_below a3)) (λ g hg=>hg.1);obtain⟨y0,y1,y2,y3,y4,y5,y6,y7,_⟩:=Ab aa;obtain⟨e0,e1,e2,e3,e4,e5,e6,e7,m0,m1,m2,m3,m4,m5,m6,m7⟩:=Ab ab;clear a3 a4 a7 hO hA;go_wp2;rw[a0.out];exact bodyPost_ret (by simp[results,results191,go_sem,e0,e1,e2,e3,e4,e5,e6,e7]) rfl b3
 .rintro e w1 ⟨rfl,ai⟩;refine⟨rfl,?_⟩;rw[a0.out,Px.level,hq];exact⟨rfl,aj.call ai aj.size⟩
end
end Go.Proofs.YtpckmjfabiallaaGreatDoor
