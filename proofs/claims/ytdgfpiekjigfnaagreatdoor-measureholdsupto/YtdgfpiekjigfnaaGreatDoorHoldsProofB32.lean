/-
  Parts of the proof.
-/
import Derived.Test.YtdgfpiekjigfnaaGreatDoorHoldsProofA0
import Derived.Test.YtdgfpiekjigfnaaGreatDoorHoldsProofA1
import Derived.Test.YtdgfpiekjigfnaaGreatDoorHoldsProofB31
import Derived.Deep.MidRow
set_option maxRecDepth 100000
set_option maxHeartbeats 8000000
namespace Go.Proofs.YtdgfpiekjigfnaaGreatDoor
open Go Go.RowKit
section
attribute [local go_sem] Oper.semAt_some aS
variable {H:Gh} {V V':World} {rs rs' rs'':lOn} {wk:Int} {mu:Bool}
theorem RowK.of{k:Nat}{t:Tr}(h:RowK H V k t)(he:∀ (g:Nat) (cs:Array Value) (ty:TypeId),V.heap[g]?=some (.cells cs ty (0,0))->(ty=3\/g=k)->V'.heap[g]?=V.heap[g]?):RowK H V' k t:=by
 obtain⟨cs,h1,h2,h3⟩:=h;refine⟨cs,(he k _ _ h1 (.inr rfl)).trans h1,h2,fun a ha=>?_⟩;obtain⟨b,q,n,c,p1,p2,p3⟩:=h3 a ha;refine⟨b,q,n,c,p1,p2,fun e=>?_⟩;obtain⟨l,l1,l2,l3⟩:=p3 e;refine⟨l,l1,?_,l3⟩;obtain⟨h1,h2 | ⟨g,cap,cur,q1,q2,q3,q4⟩⟩:=l2
 ·exact⟨h1,.inl h2⟩
 ·exact⟨h1,.inr ⟨g,cap,cur,q1,q2,(he g _ _ q3 (.inl rfl)).trans q3,q4⟩⟩
def mS(n:Nat):Array Value:=((List.range n).flatMap fun _=>[Value.bool false,Value.slice none 0 0]).toArray
theorem oG:∀ (n s a j:Nat),a < n->j < 2->((List.range' s n).flatMap fun _=>[Value.bool false,Value.slice none 0 0])[a * 2+j]?=[Value.bool false,Value.slice none 0 0][j]?
 | n+1,s,0,j,_,hj=>by
  rw [List.range'_succ,aAZ,aBJ,m9,aAC (by simpa using hj)]
 | n+1,s,a+1,j,h,hj=>by
  rw [List.range'_succ,aAZ,aAD (by simp;omega)];have:=oG n (s+1) a j (by omega) hj;rw [<- this]
  congr 1
  simp;omega
theorem yR(n:Nat):(mS n).toList.length=n * 2:=by
 unfold mS;simp
 induction n with
 | zero=>rfl
 | succ n ih=>rw [List.range_succ];simp [ih];omega
theorem bJ6{t:Tr}{k:Nat}(h:V.heap[k]?=some (.cells (mS (H.n+1)) 171 (0,0))):RowK H V k t:=by
 refine⟨(mS (H.n+1)).toList,by simpa using h,yR _,fun a ha=>⟨false,none,0,0,?_,?_,fun e=>by cases e⟩⟩
 ·have:=oG (H.n+1) 0 a 0 (by omega) (by omega);unfold mS;rw [List.range_eq_range'];simpa using this
 ·have:=oG (H.n+1) 0 a 1 (by omega) (by omega);unfold mS;rw [List.range_eq_range'];simpa using this
theorem aX3:(Tryz.prog.info? 171).map (fun i=>(i.zero,i.size,i.bytes))=some (some (.agg #[.bool false,.slice none 0 0]),2,32):=by kernel_rfl
theorem aV6:Tryz.prog.underlying 169=some (.slice 171):=by kernel_rfl
theorem aR2(n:Nat)(h:n<=1000000)(w:World) :
  (Instr.makeSlice 169 (.I (n:Int)) (.I (n:Int))).run Tryz.prog w=.ok (.slice (some ⟨w.heap.size,0,none⟩) n n) (w.alloc (.cells (mS n) 171)):=by
 obtain⟨i0,hi,hz0,hz1,hz2⟩:=aV aX3;have:=run_make (P:=Tryz.prog) w 169 171 i0 (.agg #[.bool false,.slice none 0 0]) aV6 hi hz0 .i64 .i64 (n:Int) (n:Int) (by omega) (by omega) (by rw [hz2];omega) (by omega);rw [hz1] at this;have e:madeCells #[.bool false,.slice none 0 0] (n * 2)=mS n:=by
  apply Array.ext
  ·rw [size_madeCells,<- Array.length_toList,yR]
  intro i h1 h2;have hi:i < n * 2:=by rw [size_madeCells] at h1;exact h1
  have g:=oG n 0 (i / 2) (i % 2) (by omega) (by omega);rw [show i / 2 * 2+i % 2=i by omega,<- List.range_eq_range'] at g;have h3:(mS n)[i]?=[Value.bool false,Value.slice none 0 0][i % 2]?:=by unfold mS;simpa using g
  rw [Array.getElem?_eq_getElem h2] at h3;have h4:(madeCells #[Value.bool false,Value.slice none 0 0] (n * 2))[i]=#[Value.bool false,Value.slice none 0 0][i % 2]!:=by simp [madeCells]
  rw [h4];rcases Nat.mod_two_eq_zero_or_one i with q | q
  ·rw [q] at h3 ⊢;have:=t6 h3;rw [this]
   rfl
  ·rw [q] at h3 ⊢;have:=t6 h3;rw [this]
   rfl
 rw [<- e];simpa [Value.cells] using this
theorem WM.b_rb(h:WM H V rs wk mu):H.b≠H.rb:=by
 obtain⟨-,-,cur,hc⟩:=aF h.rw rfl;exact bH h.hd hc (by decide)
theorem WM.rb_lt(h:WM H V rs wk mu):H.rb < V.heap.size:=(aF h.rw rfl).2.1
theorem WM.row_lt(h:WM H V rs wk mu){i k:Nat}(hk:rs[i]?=some (some k)):k < V.heap.size/\∃ cs,V.heap[k]?=some (.cells cs 171 (0,0)):=by
 have hl:=h.rl;have hi:=(m7.1 hk).1;obtain⟨cs,h1,-⟩:=(h.row i k (H.Z[i]'(by omega)) hk (i9 _)).2;exact⟨aB h1,_,h1⟩
theorem WM.row_add(h:WM H V rs wk mu){i:Nat}(hi:rs[i]?=some none):WM H ((V.alloc (.cells (mS (H.n+1)) 171)).setCell ⟨H.rb,i,none⟩ (.slice (some ⟨V.heap.size,0,none⟩) (H.n+1) (H.n+1))) (rs.set i (some V.heap.size)) wk mu:=by
 have hil:=(m7.1 hi).1;have hb:wBl V (V.alloc (.cells (mS (H.n+1)) 171)):=bz9;have h1:=h.below hb;have hnew:=aE V (.cells (mS (H.n+1)) 171);have hlt:=h.rb_lt;generalize (V.alloc (.cells (mS (H.n+1)) 171))=V1 at hb h1 hnew ⊢;have hf:Fr (fun k=>k=H.rb) V1 (V1.setCell ⟨H.rb,i,none⟩ (.slice (some ⟨V.heap.size,0,none⟩) (H.n+1) (H.n+1))):=(Fr.refl (fun k=>k=H.rb) V1).setCell (p:=⟨H.rb,i,none⟩) rfl _;obtain⟨-,-,curr,hrb⟩:=aF h1.rw rfl;have hst:=(World.ownsRow.stored h1.rw i (.slice (some ⟨V.heap.size,0,none⟩) (H.n+1) (H.n+1))).1;generalize (V1.setCell ⟨H.rb,i,none⟩ (.slice (some ⟨V.heap.size,0,none⟩) (H.n+1) (H.n+1)))=V2 at hf hst ⊢;have other:∀ (g:Nat) (cs:Array Value) (ty:TypeId),V1.heap[g]?=some (.cells cs ty (0,0))->ty≠169->V2.heap[g]?=V1.heap[g]?:=fun g cs ty hg hty=>hf.block g (aB hg) (fun e=>bH hg hrb hty e);refine⟨(other _ _ _ h1.hd (by decide)).trans h1.hd,aH h1.z hf (fun k hk e=>?_),aH h1.pl hf (fun k hk e=>?_),?_,fun a b k p q=>?_,fun j k z p q=>?_,h.bb,?_,h.tf,h.wk⟩
 ·obtain⟨-,-,cur,hc⟩:=aF h1.z hk;exact bH hc hrb (by decide) e
 ·obtain⟨-,-,cur,hc⟩:=aF h1.pl hk;exact bH hc hrb (by decide) e
 ·rw [List.map_set];exact hst
 ·rw [aBO] at p q
  split at p
  ·split at q
   ·omega
   ·have hk:V.heap.size=k:=t6 (t6 p);have:=(h.row_lt q).1;omega
  ·split at q
   ·have hk:V.heap.size=k:=t6 (t6 q);have:=(h.row_lt p).1;omega
   ·exact h.ap a b k p q
 ·rw [aBO] at p
  split at p
  ·have hk:V.heap.size=k:=t6 (t6 p);subst hk;have hlo:=aBD (aBU h.bb h.b_lt);exact⟨hlo,bJ6 ((hf.block _ (aB hnew) (by omega)).trans hnew)⟩
  ·obtain⟨r1,r2⟩:=h1.row j k z p q;refine⟨r1,r2.of fun g cs ty hg hty=>other g cs ty hg ?_⟩;rcases hty with e | e
   ·rw [e];decide
   ·subst e;obtain⟨cs',hcs⟩:=(h1.row_lt p).2;rw [hcs] at hg;injection hg with hg;injection hg with _ hg _;rw [<- hg];decide
 ·refine h1.ta.ckN h.tf ⟨hf.size,fun k cur t fr hk hc=>(hf.block k (aB hc) (fun e=>?_)).trans hc⟩;have:H.base<=H.rb:=(aF h.rw rfl).1;omega
theorem WM.row_set(h:WM H V rs wk mu){i k a:Nat}{z:Zl}(hk:rs[i]?=some (some k))(hz:H.Z[i]?=some z)(ha:a<=H.n){q:Option Addr}{c:Nat}{l:List Nat}(hl:Ls12 H.base V q c l)(hE:gV H.L z.1.2 a l) :
  WM H ((V.setCell ⟨k,a * 2,none⟩ (.bool true)).setCell ⟨k,a * 2+1,none⟩ (.slice q l.length c)) rs wk mu:=by
 have hf:Fr (fun g=>g=k) V ((V.setCell ⟨k,a * 2,none⟩ (.bool true)).setCell ⟨k,a * 2+1,none⟩ (.slice q l.length c)):=((Fr.refl (fun g=>g=k) V).setCell (p:=⟨k,a * 2,none⟩) rfl _).setCell (p:=⟨k,a * 2+1,none⟩) rfl _;obtain⟨cs,h1,h2,h3⟩:=(h.row i k z hk hz).2;have h4:=aN (aN h1 (a * 2) (.bool true)) (a * 2+1) (.slice q l.length c);rw [f8,f8] at h4;have hlo:=(h.row i k z hk hz).1;generalize ((V.setCell ⟨k,a * 2,none⟩ (.bool true)).setCell ⟨k,a * 2+1,none⟩ (.slice q l.length c))=V2 at hf h4 ⊢;have other:∀ (g:Nat) (cs:Array Value) (ty:TypeId),V.heap[g]?=some (.cells cs ty (0,0))->ty≠171->V2.heap[g]?=V.heap[g]?:=fun g cs ty hg hty=>hf.block g (aB hg) (fun e=>bH hg h1 hty e);have lsk:∀ {q:Option Addr} {c:Nat} {l:List Nat},Ls12 H.base V q c l->Ls12 H.base V2 q c l:=fun {q c l} hh=>aH hh hf (fun g hg e=>by
  obtain⟨-,-,cur,hc⟩:=aF hh hg;exact bH hc h1 (by decide) e)
 refine⟨(other _ _ _ h.hd (by decide)).trans h.hd,aH h.z hf (fun g hg e=>?_),aH h.pl hf (fun g hg e=>?_),aH h.rw hf (fun g hg e=>?_),h.ap,fun j m y p r=>?_,h.bb,?_,h.tf,h.wk⟩
 ·obtain⟨-,-,cur,hc⟩:=aF h.z hg;exact bH hc h1 (by decide) e
 ·obtain⟨-,-,cur,hc⟩:=aF h.pl hg;exact bH hc h1 (by decide) e
 ·obtain⟨-,-,cur,hc⟩:=aF h.rw hg;exact bH hc h1 (by decide) e
 ·obtain⟨r1,r2⟩:=h.row j m y p r;refine⟨r1,?_⟩;by_cases e:m=k
  ·subst e;have hij:=h.ap i j m hk p;subst hij;rw [hz] at r;have e:=t6 r;subst e;refine⟨_,h4,by simp [h2],fun b hb=>?_⟩;by_cases e:b=a
   ·subst e;refine⟨true,q,l.length,c,?_,?_,fun _=>⟨l,rfl,lsk hl,hE⟩⟩
    ·rw [List.getElem?_set_ne (by omega),List.getElem?_set_self (by rw [h2];omega)]
    ·rw [List.getElem?_set_self (by rw [aAV,h2];omega)]
   ·obtain⟨x,q',n',c',p1,p2,p3⟩:=h3 b hb;refine⟨x,q',n',c',?_,?_,fun e=>?_⟩
    ·rw [List.getElem?_set_ne (by omega),List.getElem?_set_ne (by omega)];exact p1
    ·rw [List.getElem?_set_ne (by omega),List.getElem?_set_ne (by omega)];exact p2
    ·obtain⟨l',l1,l2,l3⟩:=p3 e;exact⟨l',l1,lsk l2,l3⟩
  ·refine r2.of fun g cs' ty hg hty=>?_;rcases hty with e2 | e2
   ·exact other g cs' ty hg (by rw [e2];decide)
   ·exact hf.block g (aB hg) (by rw [e2];exact e)
 ·refine h.ta.ckN h.tf ⟨hf.size,fun g cur t fr hg hc=>(hf.block g (aB hc) (fun e=>?_)).trans hc⟩;have:=hlo;omega
theorem aF4{n:Nat}(hp:PlC H n)(hk:Gk H){w:World}(hw:WM H w rs wk mu){i a:Nat}{z:Zl}(hz:H.Z[i]?=some z)(hn:z.1.2.sz<=n+1)(hpl:PlT H.L z.1.2)(ha:a<=H.L.s.size) :
  Calls Tryz.prog 97 #[.pointer (some ⟨H.b,0,none⟩),.I (i:Int),.I (a:Int)] w (kU H w rs wk mu z.1.2 a):=by
 have h1:=wW ((aQ z.1.2).1 (hk.npz hz)).1;have h8:=((aQ z.1.2).1 hpl).1.1;by_cases k5:z.1.2.f.k=5
 ·exact aF2 hp hk hw hz hn hpl ha k5
 by_cases k6:z.1.2.f.k=6
 ·exact aF3 hp hk hw hz hn hpl ha k6
 by_cases k7:z.1.2.f.k=7
 ·exact aF1 hp hk hw hz hn hpl ha k7
 by_cases k9:z.1.2.f.k=9
 ·exact aF0 hp hk hw hz hn hpl ha k9
 exact yX hp hk hw hz hn hpl ha (by omega)
end
section
attribute [local go_sem] Oper.semAt_some aS
variable {H:Gh} {rs rs' rs'':lOn} {wk:Int} {mu:Bool}
theorem bD1(k N:Nat)(W:World):Sem.run Tryz.prog (binOp BinOp.eql 169 (Value.slice (some ⟨k,0,none⟩) N N) (Value.slice none 0 0)) W=.ok (.bool false) W:=by kernel_rfl
theorem bD2(W:World):Sem.run Tryz.prog (binOp BinOp.eql 169 (Value.slice none 0 0) (Value.slice none 0 0)) W=.ok (.bool true) W:=by kernel_rfl
attribute [local go_sem] bD1 bD2
theorem aP3{w:World}{p:Addr}(u:Value)(o:Obj)(h:p.block < w.heap.size):(w.alloc o).setCell p u=(w.setCell p u).alloc o:=by
 unfold World.alloc World.setCell;simp only [World.mk.injEq,and_true];apply Array.ext_getElem?;intro i;rw [aCC,Array.getElem?_push,Array.getElem?_push,aCC,Array.size_modify];by_cases e:i=w.heap.size
 ·subst e;rw [if_neg (by omega)];simp
 ·simp [e]
theorem aK3{W V:World}{z:Zl}{i k a:Nat}{q:Option Addr}{c:Nat}{l:List Nat}(hz:H.Z[i]?=some z)(ha:a<=H.n)(hk:rs'[i]?=some (some k))(hkw:wf H rs k\/W.heap.size<=k)(hl:Ls12 H.base V q c l)(hE:gV H.L z.1.2 a l)(hw:WM H V rs' wk mu)(hg:Grw W.heap.size rs rs')(hf:Fr (fun k=>wf H rs k\/False) W V) :
  kU H W rs wk mu z.1.2 a (.returned (.slice q l.length c)) ((V.setCell ⟨k,a * 2,none⟩ (.bool true)).setCell ⟨k,a * 2+1,none⟩ (.slice q l.length c)):=by
 have hf2:Fr (fun g=>g=k) V ((V.setCell ⟨k,a * 2,none⟩ (.bool true)).setCell ⟨k,a * 2+1,none⟩ (.slice q l.length c)):=((Fr.refl (fun g=>g=k) V).setCell (p:=⟨k,a * 2,none⟩) rfl _).setCell (p:=⟨k,a * 2+1,none⟩) rfl _;refine⟨q,c,l,rs',rfl,?_,hE,hw.row_set hk hz ha hl hE,hg,?_⟩
 ·obtain⟨cs,hc⟩:=(hw.row_lt hk).2;exact aH hl hf2 (fun g hg e=>by
   obtain⟨-,-,cur,h3⟩:=aF hl hg;exact bH h3 hc (by decide) e)
 ·exact⟨hf2.os.trans hf.os,hf2.tape.trans hf.tape,hf2.output.trans hf.output,m8 hf.size hf2.size,fun g hg1 hg2=>(hf2.block g (n9 hg1 hf.size) (fun e=>by
   subst e;rcases hkw with r | r
   ·exact hg2 (.inl r)
   ·omega)).trans (hf.block g hg1 hg2)⟩
theorem aE9{n:Nat}(hp:PlC H n)(hk:Gk H):PlC H (n+1):=by
 intro i a z W rs wk mu hz hn hpl ha hw;have hil:=(m7.1 hz).1;have hlen:=hk.len;have hsm:=hk.sm;have hrl:=hw.rl;have iil:(i:Int) < (H.Z.length:Int):=by omega
 have PC:=aC (fun (V:World) (rs':lOn) (h:WM H V rs' wk mu)=>aF4 hp hk h hz hn hpl ha);have HZ:=aC hz;obtain⟨N,hN⟩:∃ N,H.L.s.size+1=N:=⟨_,rfl⟩;have hwN:IntKind.wrap .i64 ((H.L.s.size:Int)+1)=(N:Int):=by rw [wrap_small _ (by omega) (by omega)];omega
 have MR:=aR2 N (by omega);have haN:(a:Int) < (N:Int):=by omega
 have HN:=aC hN;have hN1:N<=1001:=by omega
 have c1:=hw.cell (i:=1) rfl;have c15:=hw.cell (i:=15) rfl;have HW:=aC hw;have hrb:=hw.rb_lt;have hbl:=hw.b_lt;have hbrb:=hw.b_rb;have ha':Hid (a<=H.n):=ha;obtain⟨x,hx⟩:∃ x,rs[i]?=some x:=⟨_,i9 (by omega)⟩;have y0:W.cell? ⟨H.rb,i,none⟩=some (rwV H.n x):=aM hw.rw (by simp [hx]);clear hp hk hz hn hpl ha hw hN hrl
 cases x with
 | some k=>
  have y1:W.cell? ⟨H.rb,i,none⟩=some (.slice (some ⟨k,0,none⟩) N N):=by rw [y0,<- HN.o];rfl
  clear y0;have HX:=aC hx;obtain⟨hlo,cs,r1,r2,r3⟩:=HW.o.row i k z hx HZ.o;obtain⟨kn,q,m,c,p1,p2,p3⟩:=r3 a ha'.o;have z0:W.cell? ⟨k,a * 2,none⟩=some (.bool kn):=aA r1 (by simpa using p1);have z1:W.cell? ⟨k,a * 2+1,none⟩=some (.slice q m c):=aA r1 (by simpa using p2);have P3:=aC p3;clear hx r1 r2 r3 p1 p2 p3;go_enter Tryz.func70,Tryz.ntmps70
  cases kn with
  | true=>
   obtain⟨l,l1,l2,l3⟩:=P3.o rfl;have HL2:=aC l2;have HL3:=aC l3;clear l2 l3 P3;subst l1;go_wp2;go_ret;exact⟨q,c,l,rs,rfl,HL2.o,HL3.o,HW.o,Grw.refl _ _,Fr.refl _ _⟩
  | false=>
   have PW:=aC (PC.o W rs HW.o);clear P3;go_upto_region 6 with (go_at_call 97;(with_reducible refine(PW.o).mono ?_);rintro e w5 ⟨q5,c5,l5,rs5,rfl,h51,h52,h53,h54,h55⟩;have L5:=aC h51;have E5:=aC h52;have W5:=aC h53;have G5:=aC h54;have F5:=aC h55;clear h51 h52 h53 h54 h55)
   have HX5:=aC (G5.o.old i k HX.o);have d15:=W5.o.cell (i:=15) rfl;have d0:w5.cell? ⟨H.rb,i,none⟩=some (.slice (some ⟨k,0,none⟩) N N):=by
    have:w5.cell? ⟨H.rb,i,none⟩=some (rwV H.n (some k)):=aM W5.o.rw (by simp [HX5.o]);rw [this,<- HN.o]
    rfl
   obtain⟨cs5,r1,r2,r3⟩:=(W5.o.row i k z HX5.o HZ.o).2;obtain⟨kn,q',m',c',p1,p2,-⟩:=r3 a ha'.o;have z0:w5.cell? ⟨k,a * 2,none⟩=some (.bool kn):=aA r1 (by simpa using p1);have z1:w5.cell? ⟨k,a * 2+1,none⟩=some (.slice q' m' c'):=aA r1 (by simpa using p2);have hfz:=fun o=>aG r1 o;have KP:=aC (aK3 HZ.o ha'.o HX5.o (.inl (.inr (.inr (n7 HX.o)))) L5.o E5.o W5.o G5.o F5.o);clear r1 r2 r3 p1 p2 y1;go_wp2;go_ret;exact KP.o
 | none=>
  have y1:W.cell? ⟨H.rb,i,none⟩=some (.slice none 0 0):=y0;clear y0;have HX:=aC hx;clear hx;go_enter Tryz.func70,Tryz.ntmps70;go_upto_region 2 with fail
  have hrf:W.frozen? ⟨H.rb,i,none⟩=false:=World.ownsRow.frozenAt HW.o.rw i;have sA:∀ v:Value,(W.setCell ⟨H.rb,i,none⟩ v).cell? ⟨H.b,15,none⟩=some (.slice (some ⟨H.rb,0,none⟩) H.Z.length H.rc):=fun v=>by
   have:=((Fr.refl (fun k=>k=H.rb) W).setCell (p:=⟨H.rb,i,none⟩) rfl v).block H.b hbl hbrb;unfold World.cell? at c15 ⊢;rw [this];exact c15
  have sB:∀ v:Value,(W.setCell ⟨H.rb,i,none⟩ v).cell? ⟨H.b,1,none⟩=some (.string H.L.s):=fun v=>by
   have:=((Fr.refl (fun k=>k=H.rb) W).setCell (p:=⟨H.rb,i,none⟩) rfl v).block H.b hbl hbrb;unfold World.cell? at c1 ⊢;rw [this];exact c1
  have sC:∀ v:Value,H.b < (W.setCell ⟨H.rb,i,none⟩ v).heap.size:=fun v=>by simp [World.setCell];exact hbl
  go_region_held (fun w'=>w'.cell? ⟨H.b,15,none⟩=some (.slice (some ⟨H.rb,0,none⟩) H.Z.length H.rc)/\w'.cell? ⟨H.b,1,none⟩=some (.string H.L.s)) (first | go_keep |(refine⟨?_,?_⟩ <;> simp [sA,sB,sC,World.cell?_alloc_old])) (fail)
  have WD:Hid (WM H W.drew rs wk mu):=HW.o.below (Below.refl _ _).drew;have WA:=aC (HW.o.row_add HX.o);rw [aP3 _ _ hrb] at WA;have hN2:H.n+1=N:=HN.o;rw [hN2] at WA;clear hN2;have W3:=aC (WA.o.below (Below.refl _ _).drew);have F3:Hid (Fr (fun k=>wf H rs k\/False) W ((W.setCell ⟨H.rb,i,none⟩ (.slice (some ⟨W.heap.size,0,none⟩) N N)).alloc (.cells (mS N) 171)).drew):=(((Fr.refl (fun k=>wf H rs k\/False) W).setCell (p:=⟨H.rb,i,none⟩) (.inl (.inr (.inl rfl))) _).alloc _).drew;generalize ((W.setCell ⟨H.rb,i,none⟩ (.slice (some ⟨W.heap.size,0,none⟩) N N)).alloc (.cells (mS N) 171)).drew=w3 at W3 F3 ⊢;have HX3:Hid ((rs.set i (some W.heap.size))[i]?=some (some W.heap.size)):=aC (List.getElem?_set_self (m7.1 HX.o).1);have G3:Hid (Grw W.heap.size rs (rs.set i (some W.heap.size))):=⟨fun j k hj=>by
   rw [aBO]
   split
   ·rename_i e
    subst e;rw [HX.o] at hj;cases hj
   ·exact hj,fun k hk=>by
   rcases List.mem_or_eq_of_mem_set hk with r | r
   ·exact .inl r
   ·exact .inr (by rw [t6 r];exact t9 _)⟩
  have hkk:Hid (W.heap.size<=W.heap.size):=t9 _;generalize hrs3:rs.set i (some W.heap.size)=rs3 at W3 HX3 G3;have b15:=W3.o.cell (i:=15) rfl;obtain⟨k,hk⟩:∃ k,W.heap.size=k:=⟨_,rfl⟩;have HKW:Hid (W.heap.size<=k):=aC (Nat.le_of_eq hk);rw [hk] at HX3;have b0:w3.cell? ⟨H.rb,i,none⟩=some (.slice (some ⟨k,0,none⟩) N N):=by
   have:w3.cell? ⟨H.rb,i,none⟩=some (rwV H.n (some k)):=aM W3.o.rw (by simp [HX3.o]);rw [this,<- HN.o]
   rfl
  rw [hk];obtain⟨cs,r1,r2,r3⟩:=(W3.o.row i k z HX3.o HZ.o).2;obtain⟨kn,q,m,c,p1,p2,p3⟩:=r3 a ha'.o;have z0:w3.cell? ⟨k,a * 2,none⟩=some (.bool kn):=aA r1 (by simpa using p1);have z1:w3.cell? ⟨k,a * 2+1,none⟩=some (.slice q m c):=aA r1 (by simpa using p2);have P3:=aC p3;clear hrs3 hk r1 r2 r3 p1 p2 p3 sA sB sC c1 c15 y1 hrf WA
  cases kn with
  | true=>
   obtain⟨l,l1,l2,l3⟩:=P3.o rfl;have HL2:=aC l2;have HL3:=aC l3;clear l2 l3 P3;subst l1;go_wp2;go_ret;exact⟨q,c,l,rs3,rfl,HL2.o,HL3.o,W3.o,G3.o,F3.o⟩
  | false=>
   clear z1 P3;have PW:=aC (PC.o w3 rs3 W3.o);go_upto_region 6 with (go_at_call 97;(with_reducible refine(PW.o).mono ?_);rintro e w5 ⟨q5,c5,l5,rs5,rfl,h51,h52,h53,h54,h55⟩;have L5:=aC h51;have E5:=aC h52;have W5:=aC h53;have G5:=aC h54;have F5:=aC h55;clear h51 h52 h53 h54 h55)
   have HX5:=aC (G5.o.old i k HX3.o);have d15:=W5.o.cell (i:=15) rfl;have d0:w5.cell? ⟨H.rb,i,none⟩=some (.slice (some ⟨k,0,none⟩) N N):=by
    have:w5.cell? ⟨H.rb,i,none⟩=some (rwV H.n (some k)):=aM W5.o.rw (by simp [HX5.o]);rw [this,<- HN.o]
    rfl
   obtain⟨cs5,r1,r2,r3⟩:=(W5.o.row i k z HX5.o HZ.o).2;obtain⟨kn,q',m',c',p1,p2,-⟩:=r3 a ha'.o;have z0:w5.cell? ⟨k,a * 2,none⟩=some (.bool kn):=aA r1 (by simpa using p1);have z1:w5.cell? ⟨k,a * 2+1,none⟩=some (.slice q' m' c'):=aA r1 (by simpa using p2);have hfz:=fun o=>aG r1 o;have KP:=aC (aK3 HZ.o ha'.o HX5.o (.inr HKW.o) L5.o E5.o W5.o (G3.o.trans G5.o F3.o.size) (pA F3.o G3.o F5.o (fun _ e=>e.elim)));clear r1 r2 r3 p1 p2;go_wp2;go_ret;exact KP.o
theorem vD(hk:Gk H):∀ n,PlC H n
 | 0=>fun i a z W rs wk mu _ hn=>absurd (dQ z.1.2) (by omega)
 | n+1=>aE9 (vD hk n) hk
end
def ga(x:Cf)(i:Nat):Int:=(x.g.getD i (-1,-1)).1
def gb(x:Cf)(i:Nat):Int:=(x.g.getD i (-1,-1)).2
def cfC(x:Cf):List Value:=#[.I (x.p:Int),.I (ga x 0),.I (gb x 0),.I (ga x 1),.I (gb x 1),.I (ga x 2),.I (gb x 2),.I (ga x 3),.I (gb x 3),.I (ga x 4),.I (gb x 4),.I (ga x 5),.I (gb x 5),.I (ga x 6),.I (gb x 6),.I (ga x 7),.I (gb x 7),.I (ga x 8),.I (gb x 8),.I (ga x 9),.I (gb x 9)].toList
theorem dF(x:Cf):(cfC x).length=21:=rfl
def cfA(x:Cf):Array Value:=(cfC x).toArray
theorem rY:Tryz.prog.underlying 87=some (.struct (Tryz.prog.fieldsOf 87)):=by kernel_rfl
theorem pV:Tryz.prog.underlying 81=some (.slice 87):=by kernel_rfl
theorem oC:(Tryz.prog.info? 87).map (·.size)=some 21:=by kernel_rfl
theorem bY{ops:Array Oper}{rest:List Oper}{op:Oper}{a:Act}{w:World}{Q:Exit->Act->World->Prop}(hgd:op.guard=none)(xo:Operand)(ho:op.op=.load 87 xo)(b o:Nat)(hx:a.eval xo=.pointer (some ⟨b,o,none⟩))(x:Cf)(hc:w.rangeAt b o (cfC x))
  (h:wpList Tryz.prog ops Q rest (a.put op.dst (.agg (cfA x))) w):wpList Tryz.prog ops Q (op :: rest) a w:=
 wpList_load_mid hgd 87 xo ho b o hx (cfC x) _ hc rY rfl (by rw [oC,dF]) h
theorem gP{P:Program}{ops:Array Oper}{Q:Exit->Act->World->Prop}{d:Option Tmp}{xo:Operand}{ty:TypeId}{pos:String}{af:Array Edge}{gd:Option (Nat × Bool)}{rest:List Oper}{a:Act}{w:World}(h:wpList P ops Q (Oper.mk d (.load 87 xo) ty pos af gd :: rest) a w):wpList P ops Q (Oper.mk d (.load 87 xo) ty pos af gd :: rest) a w:=h
theorem lA{ops:Array Oper}{S:World->Prop}{op:Oper}{a:Act}(hw:Region.wanted op (yielded ops a.tmps)=true)(xo:Operand)(ho:op.op=.load 87 xo)(b o:Nat)(hx:a.eval xo=.pointer (some ⟨b,o,none⟩))(x:Cf)(hS:∀ w,S w->w.rangeAt b o (cfC x)):YieldsIf Tryz.prog ops S op (.agg (cfA x)) a:=
 yieldsIf_load_mid hw 87 xo ho b o hx (cfC x) _ hS rY rfl (by rw [oC,dF])
theorem rJ(x:Cf):∀ v∈cfC x,v.oneCell'=true:=by
 intro v hv;unfold cfC at hv;simp at hv;rcases hv with rfl | rfl | rfl | rfl | rfl | rfl | rfl | rfl | rfl | rfl | rfl | rfl | rfl | rfl | rfl | rfl | rfl | rfl | rfl | rfl | rfl <;> rfl
theorem bC1{x:Cf}{i:Nat}{q:Int × Int}(h:x.g[i]?=some q):ga x i=q.1/\gb x i=q.2:=by
 unfold ga gb;rw [aAG,h];exact⟨rfl,rfl⟩
theorem bX8{x y:Cf}(hx:x.g.length=10)(hy:y.g.length=10)(h:∀ i,i < 10->ga x i=ga y i/\gb x i=gb y i):x.g=y.g:=by
 apply aCK (by omega);intro i h1 h2;obtain⟨a,b⟩:=h i (by omega);have e1:=bC1 (x:=x) (i9 h1);have e2:=bC1 (x:=y) (i9 h2);exact Prod.ext (by rw [<- e1.1,a,e2.1]) (by rw [<- e1.2,b,e2.2])
theorem aS9(n:Nat)(a b c d:Int)(w:World):(Op.equalIn (n+2) 84 (.agg #[.I a,.I b]) (.agg #[.I c,.I d])).run Tryz.prog w=.ok (a==c && b==d) w:=by
 have u3:=Tryz.underlying3;have a3:=Tryz.isAgg3;have z3:=Tryz.sizeOf3;have hS:Tryz.prog.underlying 84=some (.struct (Tryz.prog.fieldsOf 84)):=by kernel_rfl
 have hp:Tryz.prog.stoodInHeld 84=false:=by kernel_rfl
 rw [show n+2=(n+1)+1 from rfl,run_equalIn_agg w (n+1) 84 _ _ hS hp];simp only [Program.fieldsOf,Tryz.underlying84];go_simp;by_cases h1:a=c <;> by_cases h2:b=d <;> simp [h1,h2]
theorem wO(x:Cf)(w:World):(Instr.buildSlice 81 1 #[(0,.agg (cfA x))]).run Tryz.prog w=.ok (.slice (some ⟨w.heap.size,0,none⟩) 1 1) (w.alloc (.cells (cfA x) 87)):=by
 show (Instr.buildSlice 81 1 #[(0,.agg #[.I (x.p:Int),.I (ga x 0),.I (gb x 0),.I (ga x 1),.I (gb x 1),.I (ga x 2),.I (gb x 2),.I (ga x 3),.I (gb x 3),.I (ga x 4),.I (gb x 4),.I (ga x 5),.I (gb x 5),.I (ga x 6),.I (gb x 6),.I (ga x 7),.I (gb x 7),.I (ga x 8),.I (gb x 8),.I (ga x 9),.I (gb x 9)])]).run Tryz.prog w=.ok (.slice (some ⟨w.heap.size,0,none⟩) 1 1) (w.alloc (.cells #[.I (x.p:Int),.I (ga x 0),.I (gb x 0),.I (ga x 1),.I (gb x 1),.I (ga x 2),.I (gb x 2),.I (ga x 3),.I (gb x 3),.I (ga x 4),.I (gb x 4),.I (ga x 5),.I (gb x 5),.I (ga x 6),.I (gb x 6),.I (ga x 7),.I (gb x 7),.I (ga x 8),.I (gb x 8),.I (ga x 9),.I (gb x 9)] 87));go_simp
theorem xS{P:Program}{ops:Array Oper}{Q:Exit->Act->World->Prop}{d:Option Tmp}{ps:Array (Nat × Operand)}{ty:TypeId}{pos:String}{af:Array Edge}{gd:Option (Nat × Bool)}{rest:List Oper}{a:Act}{w:World}(h:wpList P ops Q (Oper.mk d (.buildSlice 81 1 ps) ty pos af gd :: rest) a w):wpList P ops Q (Oper.mk d (.buildSlice 81 1 ps) ty pos af gd :: rest) a w:=h
theorem kD{ops:Array Oper}{rest:List Oper}{op:Oper}{a:Act}{w:World}{Q:Exit->Act->World->Prop}(hgd:op.guard=none)(xo:Operand)(ho:op.op=.buildSlice 81 1 #[(0,xo)])(x:Cf)(hx:a.eval xo=.agg (cfA x))
  (h:wpList Tryz.prog ops Q rest (a.put op.dst (.slice (some ⟨w.heap.size,0,none⟩) 1 1)) (w.alloc (.cells (cfA x) 87))):wpList Tryz.prog ops Q (op :: rest) a w:=
 wpList_plain hgd fun _ hK=>by
  unfold Oper.wp execOp;simp only [ho,List.map_toArray,aBP,aCE,hx,Sem.run_bind,wO,Result.andThen_ok,Sem.run_pure];exact hK _ _ h
section
theorem aG9(n:Nat)(a0 a1 a2 a3 a4 a5 a6 a7 a8 a9 b0 b1 b2 b3 b4 b5 b6 b7 b8 b9 c0 c1 c2 c3 c4 c5 c6 c7 c8 c9 d0 d1 d2 d3 d4 d5 d6 d7 d8 d9:Int)(w:World) :
  (Op.equalIn (n+3) 85 (.agg #[.I a0,.I b0,.I a1,.I b1,.I a2,.I b2,.I a3,.I b3,.I a4,.I b4,.I a5,.I b5,.I a6,.I b6,.I a7,.I b7,.I a8,.I b8,.I a9,.I b9]) (.agg #[.I c0,.I d0,.I c1,.I d1,.I c2,.I d2,.I c3,.I d3,.I c4,.I d4,.I c5,.I d5,.I c6,.I d6,.I c7,.I d7,.I c8,.I d8,.I c9,.I d9])).run Tryz.prog w
   = .ok ((a0==c0 && b0==d0) && (a1==c1 && b1==d1) && (a2==c2 && b2==d2) && (a3==c3 && b3==d3) && (a4==c4 && b4==d4) && (a5==c5 && b5==d5) && (a6==c6 && b6==d6) && (a7==c7 && b7==d7) && (a8==c8 && b8==d8) && (a9==c9 && b9==d9)) w:=by
 have a22:=Tryz.isAgg84;have z22:=Tryz.sizeOf84;have hu:Tryz.prog.underlying 85=some (.array 10 84):=by kernel_rfl
 have EP:=aS9 n;rw [show n+3=(n+2)+1 from rfl,Op.equalIn];simp only [Sem.run_bind,run_underlying hu,Result.andThen_ok];simp only [Std.Legacy.Range.forIn_eq_forIn_range',Std.Legacy.Range.size,Nat.sub_zero,aBT,Nat.div_one,List.range'_succ,List.range'_zero,List.forIn_cons,List.forIn_nil];go_simp;clear EP a22 z22 hu;by_cases ha0:a0=c0
 case neg=>simp [ha0]
 subst ha0;by_cases hb0:b0=d0
 case neg=>simp [hb0]
 subst hb0;by_cases ha1:a1=c1
 case neg=>simp [ha1]
 subst ha1;by_cases hb1:b1=d1
 case neg=>simp [hb1]
 subst hb1;by_cases ha2:a2=c2
 case neg=>simp [ha2]
 subst ha2;by_cases hb2:b2=d2
 case neg=>simp [hb2]
 subst hb2;by_cases ha3:a3=c3
 case neg=>simp [ha3]
 subst ha3;by_cases hb3:b3=d3
 case neg=>simp [hb3]
 subst hb3;by_cases ha4:a4=c4
 case neg=>simp [ha4]
 subst ha4;by_cases hb4:b4=d4
 case neg=>simp [hb4]
 subst hb4;by_cases ha5:a5=c5
 case neg=>simp [ha5]
 subst ha5;by_cases hb5:b5=d5
 case neg=>simp [hb5]
 subst hb5;by_cases ha6:a6=c6
 case neg=>simp [ha6]
 subst ha6;by_cases hb6:b6=d6
 case neg=>simp [hb6]
 subst hb6;by_cases ha7:a7=c7
 case neg=>simp [ha7]
 subst ha7;by_cases hb7:b7=d7
 case neg=>simp [hb7]
 subst hb7;by_cases ha8:a8=c8
 case neg=>simp [ha8]
 subst ha8;by_cases hb8:b8=d8
 case neg=>simp [hb8]
 subst hb8;by_cases ha9:a9=c9
 case neg=>simp [ha9]
 subst ha9;by_cases hb9:b9=d9
 case neg=>simp [hb9]
 subst hb9;simp
theorem aT0(n:Nat)(p q:Int)(a0 a1 a2 a3 a4 a5 a6 a7 a8 a9 b0 b1 b2 b3 b4 b5 b6 b7 b8 b9 c0 c1 c2 c3 c4 c5 c6 c7 c8 c9 d0 d1 d2 d3 d4 d5 d6 d7 d8 d9:Int)(w:World) :
  (Op.equalIn (n+4) 87 (.agg #[.I p,.I a0,.I b0,.I a1,.I b1,.I a2,.I b2,.I a3,.I b3,.I a4,.I b4,.I a5,.I b5,.I a6,.I b6,.I a7,.I b7,.I a8,.I b8,.I a9,.I b9]) (.agg #[.I q,.I c0,.I d0,.I c1,.I d1,.I c2,.I d2,.I c3,.I d3,.I c4,.I d4,.I c5,.I d5,.I c6,.I d6,.I c7,.I d7,.I c8,.I d8,.I c9,.I d9])).run Tryz.prog w
   = .ok (p==q && ((a0==c0 && b0==d0) && (a1==c1 && b1==d1) && (a2==c2 && b2==d2) && (a3==c3 && b3==d3) && (a4==c4 && b4==d4) && (a5==c5 && b5==d5) && (a6==c6 && b6==d6) && (a7==c7 && b7==d7) && (a8==c8 && b8==d8) && (a9==c9 && b9==d9))) w:=by
 have u3:=Tryz.underlying3;have ua3:=Tryz.isAgg3;have z3:=Tryz.sizeOf3;have a22:=Tryz.isAgg85;have z22:=Tryz.sizeOf85;have hS:Tryz.prog.underlying 87=some (.struct (Tryz.prog.fieldsOf 87)):=by kernel_rfl
 have hp:Tryz.prog.stoodInHeld 87=false:=by kernel_rfl
 have EP:=aG9 n;rw [show n+4=(n+3)+1 from rfl,run_equalIn_agg w (n+3) 87 _ _ hS hp];simp only [Program.fieldsOf,Tryz.underlying87];go_simp;by_cases h1:p=q
 case neg=>simp [h1]
 subst h1;generalize ((a0==c0 && b0==d0) && (a1==c1 && b1==d1) && (a2==c2 && b2==d2) && (a3==c3 && b3==d3) && (a4==c4 && b4==d4) && (a5==c5 && b5==d5) && (a6==c6 && b6==d6) && (a7==c7 && b7==d7) && (a8==c8 && b8==d8) && (a9==c9 && b9==d9))=B;cases B <;> simp
open Classical in
noncomputable def cfE (x y:Cf):Bool:=decide (x=y)
theorem aM8(x y:Cf):cfE x y=true ↔ x=y:=by unfold cfE;simp
theorem bM9{x y:Cf}(hx:x.g.length=10)(hy:y.g.length=10)(w:World):(binOp .eql 87 (.agg (cfA x)) (.agg (cfA y))).run Tryz.prog w=.ok (.bool (cfE x y)) w:=by
 have e:=aT0 9996 (x.p:Int) (y.p:Int) (ga x 0) (ga x 1) (ga x 2) (ga x 3) (ga x 4) (ga x 5) (ga x 6) (ga x 7) (ga x 8) (ga x 9) (gb x 0) (gb x 1) (gb x 2) (gb x 3) (gb x 4) (gb x 5) (gb x 6) (gb x 7) (gb x 8) (gb x 9) (ga y 0) (ga y 1) (ga y 2) (ga y 3) (ga y 4) (ga y 5) (ga y 6) (ga y 7) (ga y 8) (ga y 9) (gb y 0) (gb y 1) (gb y 2) (gb y 3) (gb y 4) (gb y 5) (gb y 6) (gb y 7) (gb y 8) (gb y 9) w;have hb:((x.p:Int)==(y.p:Int) && ((ga x 0==ga y 0 && gb x 0==gb y 0) && (ga x 1==ga y 1 && gb x 1==gb y 1) && (ga x 2==ga y 2 && gb x 2==gb y 2) && (ga x 3==ga y 3 && gb x 3==gb y 3) && (ga x 4==ga y 4 && gb x 4==gb y 4) && (ga x 5==ga y 5 && gb x 5==gb y 5) && (ga x 6==ga y 6 && gb x 6==gb y 6) && (ga x 7==ga y 7 && gb x 7==gb y 7) && (ga x 8==ga y 8 && gb x 8==gb y 8) && (ga x 9==ga y 9 && gb x 9==gb y 9)))=cfE x y:=by
  rw [aBL,aM8];simp only [aBE,beq_iff_eq];constructor
  ·rintro ⟨h1,h2⟩;have hp:x.p=y.p:=(by omega);have hg:=bX8 hx hy (fun i hi=>by
    obtain⟨⟨⟨⟨⟨⟨⟨⟨⟨q0,q1⟩,q2⟩,q3⟩,q4⟩,q5⟩,q6⟩,q7⟩,q8⟩,q9⟩:=h2
    match i,hi with
    | 0,_=>exact q0
    | 1,_=>exact q1
    | 2,_=>exact q2
    | 3,_=>exact q3
    | 4,_=>exact q4
    | 5,_=>exact q5
    | 6,_=>exact q6
    | 7,_=>exact q7
    | 8,_=>exact q8
    | 9,_=>exact q9)
   obtain⟨p,g⟩:=x;obtain⟨p',g'⟩:=y;simp only at hp hg;rw [hp,hg]
  ·intro h;subst h;simp
 rw [hb] at e;have e':(Op.equal 87 (.agg (cfA x)) (.agg (cfA y))).run Tryz.prog w=.ok (cfE x y) w:=e;simp only [binOp];simp [e']
end
section
attribute [local go_sem] Oper.semAt_some
variable {H:Gh} {V V':World} {rs rs' rs'':lOn} {wk wk':Int} {mu mu':Bool}
def Ten(l:List Cf):Prop:=∀ x∈l,x.g.length=10
theorem aL9{α:Type}(f:α->List Value)(N:Nat):∀ (xs:List α),(∀ x∈xs,(f x).length=N)->∀ (i:Nat) (x:α),xs[i]?=some x->∀ j,j < N->(xs.flatMap f)[i * N+j]?=(f x)[j]?
 | [],_,i,x,h,_,_=>by simp at h
 | y :: ys,hf,0,x,h,j,hj=>by
  simp at h;subst h;rw [aAZ,aBJ,m9,aAC (by rw [hf y (by simp)];exact hj)]
 | y :: ys,hf,i+1,x,h,j,hj=>by
  rw [aAZ,aAD (by rw [hf y (by simp),Nat.add_mul];omega),hf y (by simp),show (i+1) * N+j - N=i * N+j by rw [Nat.add_mul];omega];exact aL9 f N ys (fun x hx=>hf x (r8 _ hx)) i x (by simpa using h) j hj
def CR12(base:Nat)(V:World)(q:Option Addr)(c:Nat)(l:List Cf):Prop:=V.ownsRow base 87 21 (.slice q l.length c) l.length (l.flatMap cfC)
theorem CR12.get{base g c:Nat}{l:List Cf}(h:CR12 base V (some ⟨g,0,none⟩) c l){i:Nat}{x:Cf}(hx:l[i]?=some x):V.rangeAt g (i * 21) (cfC x):=fun j v hv=>by
 have hj:j < 21:=by have:=(m7.1 hv).1;rw [dF] at this;exact this
 exact aM h ((aL9 cfC 21 l (fun x _=>dF x) i x hx j hj).trans hv)
def BoxC(V:World)(b:Nat)(x:Cf):Prop:=V.heap[b]?=some (.cells (cfA x) 87 (0,0))
theorem BoxC.get{b:Nat}{x:Cf}(h:BoxC V b x):V.rangeAt b 0 (cfC x):=fun j v hv=>by
 rw [m9];exact aA h (by unfold cfA;simpa using hv)
theorem CR12.at{base:Nat}{q:Option Addr}{c:Nat}{l:List Cf}(h:CR12 base V q c l)(hl:0 < l.length):∃ g,q=some ⟨g,0,none⟩/\g < V.heap.size/\base<=g/\∃ cs,V.heap[g]?=some (.cells cs 87 (0,0)):=by
 obtain⟨g,c',e⟩:=aL h hl;injection e with e1 _ _;subst e1;obtain⟨a,b,d⟩:=aF h rfl;exact⟨g,rfl,b,a,d⟩
theorem CR12.kept{base:Nat}{q:Option Addr}{c:Nat}{l:List Cf}(h:CR12 base V q c l)(hb:wBl V V'):CR12 base V' q c l:=aH (S:=fun _=>False) h (Fr.of_below hb) (fun _ _ q=>q)
theorem CR12.nil(base:Nat)(V:World):CR12 base V none 0 []:=aBG _ _ _ _
theorem WM.count(h:WM H V rs wk mu)(hb:V'.heap[H.b]?=some (.cells (H.cells wk' mu') 52 (0,0)))(hf:Fr (fun k=>k=H.b) V V')(hc:mu'=false->0<=wk'/\wk'<=20000):WM H V' rs wk' mu':=by
 have other:∀ {g:Nat} {cs:Array Value} {ty:TypeId},V.heap[g]?=some (.cells cs ty (0,0))->ty≠52->g≠H.b:=fun {g cs ty} hg hty=>bH hg h.hd hty;refine⟨hb,aH h.z hf (fun k hk e=>?_),aH h.pl hf (fun k hk e=>?_),aH h.rw hf (fun k hk e=>?_),h.ap,fun i k z p q=>?_,h.bb,?_,h.tf,hc⟩
 ·obtain⟨-,-,cur,hc⟩:=aF h.z hk;exact other hc (by decide) e
 ·obtain⟨-,-,cur,hc⟩:=aF h.pl hk;exact other hc (by decide) e
 ·obtain⟨-,-,cur,hc⟩:=aF h.rw hk;exact other hc (by decide) e
 ·refine⟨(h.row i k z p q).1,(h.row i k z p q).2.of fun g cs ty hg hty=>hf.block g (aB hg) (other hg ?_)⟩;rcases hty with e | e
  ·rw [e];decide
  ·subst e;obtain⟨cs',hcs⟩:=(h.row_lt p).2;rw [hcs] at hg;injection hg with hg;injection hg with _ hg _;rw [<- hg];decide
 ·refine h.ta.ckN h.tf ⟨hf.size,fun k cur t fr hk hc=>(hf.block k (aB hc) (fun e=>?_)).trans hc⟩;have:=h.bb;omega
structure PuI(H:Gh)(W:World)(rs:lOn)(wk:Int)(mu:Bool)(base:Nat)(q:Option Addr)(c:Nat)(l:List Cf)(x:Cf)(q':Option Addr)(c':Nat)(l':List Cf)(wk':Int)(mu':Bool)(W':World):Prop where
 cr:CR12 base W' q' c' l'
 wm:WM H W' rs wk' mu'
 is:l'=l\/l'=l ++ [x]
 has:mu'=false->x∈l'
 mo:mu=true->mu'=true
 wkm:mu'=false->wk<=wk'
 n:l'.length<=20000
 nw:mu'=false->(l'.length:Int)<=wk'
 f:Fr (fun k=>k=H.b\/(Value.slice q l.length c).ownBlock=some k) W W'
 mv:moved (.slice q l.length c) (.slice q' l'.length c') W.heap.size
def PuP(H:Gh)(W:World)(rs:lOn)(wk:Int)(mu:Bool)(base:Nat)(q:Option Addr)(c:Nat)(l:List Cf)(x:Cf)(e:Ending)(W':World):Prop:=∃ (q':Option Addr) (c':Nat) (l':List Cf) (wk':Int) (mu':Bool),e=.returned (.slice q' l'.length c')/\PuI H W rs wk mu base q c l x q' c' l' wk' mu' W'
def xU:Value:=.agg #[.I 0,.I 0,.I 0,.I 0,.I 0,.I 0,.I 0,.I 0,.I 0,.I 0,.I 0,.I 0,.I 0,.I 0,.I 0,.I 0,.I 0,.I 0,.I 0,.I 0,.I 0]
theorem pX:(Tryz.prog.info? 87).map (fun i=>(i.zero,i.size,i.bytes))=some (some xU,21,168):=by kernel_rfl
theorem CR12.cnt{base:Nat}{q:Option Addr}{c:Nat}{l:List Cf}(h:CR12 base V q c l)(hw:WM H V rs wk mu)(hf:Fr (fun k=>k=H.b) V V'):CR12 base V' q c l:=aH h hf (fun k hk e=>by
 obtain⟨-,-,cur,hc⟩:=aF h hk;exact bH hc hw.hd (by decide) e)
theorem mY:xU.cells.size=21:=by kernel_rfl
theorem iY{w:World}(hw:WM H w rs wk mu){base:Nat}{q:Option Addr}{c:Nat}{l:List Cf}{x:Cf}(hl:CR12 base w q c l)(hbs:base<=w.heap.size)(hbb:H.base<=base)(ht:Ten l)(hx:x.g.length=10)(hn:l.length<=20000)(hnw:mu=false->(l.length:Int)<=wk) :
  Calls Tryz.prog 71 #[.pointer (some ⟨H.b,0,none⟩),.slice q l.length c,.agg (cfA x)] w (PuP H w rs wk mu base q c l x):=by
 have B0:Hid (wBl w (w.alloc (.cells (cfA x) 87))):=bz9;have X0:Hid (BoxC (w.alloc (.cells (cfA x) 87)) w.heap.size x):=aE w _;have W0:=aC (hw.below B0.o);have L0:=aC (hl.kept B0.o);have HT:=aC ht;have HX:=aC hx;have HNW:=aC hnw;have HWK:=aC hw.wk;clear hw hl ht hx hnw;go_enter Tryz.func71,Tryz.ntmps71;go_upto_region 1 with fail
 generalize (w.alloc (.cells (cfA x) 87))=w1 at B0 X0 W0 L0 ⊢;have c16:=W0.o.cell (i:=16) (v:=.I wk) rfl;have c17:=W0.o.cell (i:=17) (v:=.bool mu) rfl;have f16:=W0.o.frz 16;have f17:=W0.o.frz 17;obtain⟨wk1,hk1⟩:∃ k,IntKind.wrap .i64 (wk+1)=k:=⟨_,rfl⟩;have F1:Hid (Fr (fun k=>k=H.b) w1 (w1.setCell ⟨H.b,16,none⟩ (.I wk1))):=(Fr.refl (fun k=>k=H.b) w1).setCell (p:=⟨H.b,16,none⟩) rfl _;have F2:Hid (Fr (fun k=>k=H.b) w1 ((w1.setCell ⟨H.b,16,none⟩ (.I wk1)).setCell ⟨H.b,17,none⟩ (.bool true))):=F1.o.setCell (p:=⟨H.b,17,none⟩) rfl _;have H1:Hid ((w1.setCell ⟨H.b,16,none⟩ (.I wk1)).heap[H.b]?=some (.cells (H.cells wk1 mu) 52 (0,0))):=aN W0.o.hd 16 (.I wk1);have H2:Hid (((w1.setCell ⟨H.b,16,none⟩ (.I wk1)).setCell ⟨H.b,17,none⟩ (.bool true)).heap[H.b]?=some (.cells (H.cells wk1 true) 52 (0,0))):=aN H1.o 17 (.bool true);have FB:Hid (∀ V,Fr (fun k=>k=H.b) w1 V->Fr (fun k=>k=H.b\/(Value.slice q l.length c).ownBlock=some k) w V):=fun V hf=>(Fr.of_below B0.o).trans (hf.mono fun k e=>.inl e);by_cases hbig:mu=true\/(20000:Int) < wk1
 ·have D2:Hid (PuP H w rs wk mu base q c l x (.returned (.slice q l.length c)) ((w1.setCell ⟨H.b,16,none⟩ (.I wk1)).setCell ⟨H.b,17,none⟩ (.bool true))):=⟨q,c,l,wk1,true,rfl,L0.o.cnt W0.o F2.o,W0.o.count H2.o F2.o (fun e=>by cases e),.inl rfl,fun e=>(by cases e),fun _=>rfl,fun e=>(by cases e),hn,fun e=>(by cases e),FB.o _ F2.o,moved.refl _ _⟩;by_cases h2:(20000:Int) < wk1
  ·clear hbig;go_wp2;go_ret;exact D2.o
  ·have hm:mu=true:=hbig.resolve_right h2;clear hbig D2;subst hm;have D1:Hid (PuP H w rs wk true base q c l x (.returned (.slice q l.length c)) (w1.setCell ⟨H.b,16,none⟩ (.I wk1))):=⟨q,c,l,wk1,true,rfl,L0.o.cnt W0.o F1.o,W0.o.count H1.o F1.o (fun e=>by cases e),.inl rfl,fun e=>(by cases e),fun _=>rfl,fun e=>(by cases e),hn,fun e=>(by cases e),FB.o _ F1.o,moved.refl _ _⟩;go_wp2;go_ret;exact D1.o
 ·have hm:mu=false:=by cases mu <;> simp_all
  subst hm;have h2:¬ (20000:Int) < wk1:=fun h=>hbig (.inr h);have hwk0:=HWK.o rfl;have hnw0:=HNW.o rfl;have hk2:wk1=wk+1:=by rw [<- hk1];exact wrap_small _ (by omega) (by omega)
  have W2:Hid (WM H (w1.setCell ⟨H.b,16,none⟩ (.I wk1)) rs wk1 false):=W0.o.count H1.o F1.o (fun _=>by omega);have L2:=aC (L0.o.cnt W0.o F1.o);have X2:Hid (BoxC (w1.setCell ⟨H.b,16,none⟩ (.I wk1)) w.heap.size x):=(F1.o.block _ (aB X0.o) (bH X0.o W0.o.hd (by decide))).trans X0.o;have hll:(l.length:Int)+1<=wk1:=by omega
  have hkm:wk<=wk1:=by omega
  have hl2:l.length+1<=20000:=by omega
  have F3:=aC (FB.o _ F1.o);have HS:Hid (w.heap.size<=(w1.setCell ⟨H.b,16,none⟩ (.I wk1)).heap.size):=aC (m8 B0.o.size F1.o.size);clear hbig hk2 hwk0 hnw0 HNW HWK;go_upto_region 4 with fail
  generalize (w1.setCell ⟨H.b,16,none⟩ (.I wk1))=w2 at W2 L2 X2 F3 HS ⊢;clear c16 c17 f16 f17 hk1 F1 F2 H1 H2 FB W0 L0 X0 B0;have c17:=W2.o.cell (i:=17) (v:=.bool false) rfl;go_upto_region 7 with fail
  go_loopw [7] (fun iv wr=>∃ k:Nat,k<=l.length/\iv=.I (k:Int)/\wBl w2 wr) (fun iv _=>l.length - (intOf iv).toNat)
  case atStart=>exact⟨0,o9 _,rfl,Below.refl _ _⟩
  case round=>
   obtain⟨k,hk,rfl,hbl⟩:=hrel;have L3:=aC (L2.o.kept hbl);have W3:=aC (W2.o.below hbl);have F4:=aC (F3.o.then hbl);have X3:Hid (BoxC wr w.heap.size x):=(hbl.block _ (aB X2.o)).trans X2.o;have BL:=aC hbl;clear hbl;by_cases hkl:k < l.length
   ·have i0:(k:Int) < (l.length:Int):=by omega
    have hw3:IntKind.wrap .i64 ((k:Int)+1)=(k:Int)+1:=wrap_small _ (by omega) (by omega);obtain⟨y,hy⟩:∃ y,l[k]?=some y:=⟨_,i9 hkl⟩;have HY:=aC hy;obtain⟨g,rfl,g1,g2,g3⟩:=L3.o.at (by omega);have hyt:=HT.o y (n7 hy);have RY:=aC (L3.o.get hy);have D:=aC ((Below.refl wr.heap.size wr).drew);have EQ:=bM9 hyt HX.o;obtain⟨b,hb⟩:∃ b,cfE y x=b:=⟨_,rfl⟩;have HB:=aC hb;rw [hb] at EQ;clear hy hb hyt;go_upto_region 9 with fail
    refine wp_region_held_drew (S:=fun w'=>w'.rangeAt g (k * 21) (cfC y)/\w'.rangeAt w.heap.size 0 (cfC x)) (by kernel_rfl) ⟨(L3.o.kept D.o).get HY.o,BoxC.get ((D.o.block _ (aB X3.o)).trans X3.o)⟩ ?_;intro hS0;refine aCO (v:=?_) 0 ?_ ?_;rotate_left
    ·intro wz hSw;clear hSw;go_simp
     try with_reducible rfl
    dsimp only [Act.put,g9,g4,g8];simp only [f8,i8,i7];refine aCO (v:=?_) 1 ?_ ?_;rotate_left
    ·intro wz hSw;clear hSw;go_simp
     try with_reducible rfl
    dsimp only [Act.put,g9,g4,g8];simp only [f8,i8,i7];refine aCO (v:=?_) 2 ?_ ?_;rotate_left
    ·intro wz hSw;clear hSw;go_simp
     try with_reducible rfl
    dsimp only [Act.put,g9,g4,g8];simp only [f8,i8,i7];refine wpAnyH_take (i:=3) (oi:=_) (v:=_) rfl (by kernel_rfl) (by kernel_rfl) (by kernel_rfl) (fun _ _ _ h=>h) (lA (by rfl) _ rfl g (k * 21) rfl y (fun w h=>h.1)) (by assumption) ?_;dsimp only [Act.put,g9,g4,g8];simp only [f8,i8,i7];refine wpAnyH_take (i:=4) (oi:=_) (v:=_) rfl (by kernel_rfl) (by kernel_rfl) (by kernel_rfl) (fun _ _ _ h=>h) (lA (by rfl) _ rfl w.heap.size 0 rfl x (fun w h=>h.2)) (by assumption) ?_;dsimp only [Act.put,g9,g4,g8];simp only [f8,i8,i7];refine aCO (v:=?_) 5 ?_ ?_;rotate_left
    ·intro wz hSw;clear hSw;go_simp
     try with_reducible rfl
    dsimp only [Act.put,g9,g4,g8];simp only [f8,i8,i7];refine wpAnyH_done (by kernel_rfl) ?_ _;clear hS0;have B5:=D
    cases b with
    | true=>
     have HE:Hid (y=x):=aC ((aM8 y x).1 HB.o);go_wp2;go_ret;exact⟨_,c,l,wk1,false,rfl,L3.o.kept B5.o,W3.o.below B5.o,.inl rfl,fun _=>(by rw [<- HE.o];exact n7 HY.o),fun e=>(by cases e),fun _=>hkm,hn,fun _=>by omega,F4.o.then B5.o,moved.refl _ _⟩
    | false=>
     go_wp2;go_roundw
     case rel=>exact⟨k+1,by omega,by go_num,aJ BL.o B5.o lz9⟩
     case measure=>simp only [intOf];omega
   ·have i0:¬ (k:Int) < (l.length:Int):=by omega
    obtain⟨t0,hi,hz0,hz1,hz2⟩:=aV pX;have Y7:Hid ((wr.alloc (.cells (cfA x) 87)).ownsRow base 87 21 (.slice q l.length c) l.length (l.flatMap cfC)):=o8 L3.o _;have HNEW:Hid (∀ j u,(cfC x)[j]?=some u->(wr.alloc (.cells (cfA x) 87)).cell? ((⟨wr.heap.size,0,none⟩:Addr).add j)=some u):=bI wr (cfC x) _;have HB8:Hid (base<=(wr.alloc (.cells (cfA x) 87)).heap.size):=aC (m8 hbs (m8 HS.o (m8 BL.o.size (by simp))));have WA:=aC (W3.o.below ((Below.refl _ wr).alloc lz9 (.cells (cfA x) 87)));have FA:=aC (F4.o.alloc (.cells (cfA x) 87));have RX:=aC X3.o.get;go_upto_region 11 with fail
    go_wp2_with first |((with_reducible refine gP ?_);refine bY rfl _ rfl w.heap.size 0 rfl x RX.o ?_) |((with_reducible refine xS ?_);refine kD rfl _ rfl x rfl ?_) |(at_builtin;refine wpList_append_own_at _ rfl _ _ 81 rfl base 87 t0 xU 21 168 pV hi hz0 hz1 hz2 mY (by decide) (.slice q l.length c) l.length (l.flatMap cfC) rfl Y7.o ⟨wr.heap.size,0,none⟩ 1 1 (cfC x) rfl (dF x) HNEW.o (rJ x) (by unfold maxLen;omega) (by omega) HB8.o ?_;intro v' w6 hown' hgrow _ hmv;obtain⟨q6,c6,rfl⟩:=aR hown';have O6:=aC hown';have G6:=aC hgrow;have M6:=aC hmv;clear hown' hgrow hmv)
    go_ret;have F6:Fr (fun z=>(Value.slice q l.length c).ownBlock=some z) (wr.alloc (.cells (cfA x) 87)) w6:=(Fr.refl _ _).grown G6.o fun k hk=>hk;have HNM:∀ k,k < (wr.alloc (.cells (cfA x) 87)).heap.size->(Value.slice q l.length c).ownBlock=some k->H.base<=k/\k≠H.pb/\∃ cs ty,(wr.alloc (.cells (cfA x) 87)).heap[k]?=some (.cells cs ty (0,0))/\¬ wZ ty:=fun k _ hk=>by
     obtain⟨h1,h2,cur,h3⟩:=aF Y7.o hk;refine⟨by omega,?_,cur,_,h3,by unfold wZ;decide⟩;obtain⟨-,-,cur2,h4⟩:=aF WA.o.pl rfl;exact bH h3 h4 (by decide)
    refine⟨q6,c6,l ++ [x],wk1,false,by simp,?_,(WA.o.fr F6 HNM),.inr rfl,fun _=>by simp,fun e=>(by cases e),fun _=>hkm,by simp;omega,fun _=>by simp;omega,FA.o.trans (F6.mono fun k e=>.inr e),?_⟩;rotate_left
    ·rw [show (l ++ [x]).length=l.length+1 by simp];rcases M6.o with e | e
     ·exact .inl e
     ·refine .inr (.inr ⟨_,?_,e⟩);exact m8 HS.o (m8 BL.o.size (by simp))
    unfold CR12;rw [o4,List.flatMap_append];simpa using O6.o
end
section
variable {H:Gh} {V V':World} {rs rs' rs'':lOn} {wk wk':Int} {mu mu' mu'':Bool}
theorem aH5{P:Program}{ops:Array Oper}{Q:Exit->Act->World->Prop}{d:Option Tmp}{xo yo:Operand}{ty:TypeId}{pos:String}{af:Array Edge}{gd:Option (Nat × Bool)}{rest:List Oper}{a:Act}{w:World}(h:wpList P ops Q (Oper.mk d (.store 87 xo yo) ty pos af gd :: rest) a w):wpList P ops Q (Oper.mk d (.store 87 xo yo) ty pos af gd :: rest) a w:=h
theorem qP(b:Nat):∀ (vs:List Value) (o:Nat) (W:World),Fr (fun k=>k=b) W (W.setCells b o vs)
 | [],_,W=>by unfold World.setCells;exact Fr.refl _ W
 | v :: vs,o,W=>by
  have:=((Fr.refl (fun k=>k=b) W).setCell (p:=⟨b,o,none⟩) rfl v).trans (qP b vs (o+1) (W.setCell ⟨b,o,none⟩ v));simpa [World.setCells] using this
theorem lU(x:Cf):(cfA x).size=21:=by unfold cfA;rw [aBK,dF]
theorem aA3(x:Cf):(cfA x).toList=cfC x:=by unfold cfA;simp
theorem bJ0{b:Nat}:∀ (vs:List Value) (o:Nat) (W:World) (C:Array Value),W.heap[b]?=some (.cells C 87 (0,0))->C.size=21->∃ C',(W.setCells b o vs).heap[b]?=some (.cells C' 87 (0,0))/\C'.size=21:=by
 intro vs
 induction vs with
 | nil=>intro o W C h1 h2;exact⟨C,by unfold World.setCells;exact h1,h2⟩
 | cons v vs ih=>
  intro o W C h1 h2;have:=ih (o+1) (W.setCell ⟨b,o,none⟩ v) _ (aN h1 o v) (by simpa using h2);simpa [World.setCells] using this
theorem nB{ops:Array Oper}{rest:List Oper}{op:Oper}{a:Act}{w:World}{Q:Exit->Act->World->Prop}(hgd:op.guard=none)(xo yo:Operand)(ho:op.op=.store 87 xo yo)(b:Nat)(x:Cf)(hx:a.eval xo=.pointer (some ⟨b,0,none⟩))(hy:a.eval yo=.agg (cfA x))
  {C:Array Value} (hb:w.heap[b]?=some (.cells C 87 (0,0))) (hC:C.size=21)
  (h:∀ w',BoxC w' b x->Fr (fun k=>k=b) w w'->wpList Tryz.prog ops Q rest (a.put op.dst undef) w'):wpList Tryz.prog ops Q (op :: rest) a w:=by
 have hth:w.there b 0 (cfA x).size:=fun j hj=>by
  rw [lU] at hj;rw [m9];refine⟨?_,aG hb j⟩;rw [aA hb (v:=C[j]'(by omega)) (by simp)]
  rfl
 have hr:=World.rangeAt_setCells_same w b 0 (cfC x) (by rw [dF,<- lU x];exact hth);obtain⟨C',hC',hsz⟩:∃ C',(w.setCells b 0 (cfC x)).heap[b]?=some (.cells C' 87 (0,0))/\C'.size=21:=bJ0 (cfC x) 0 w C hb hC;have hE:C'=cfA x:=by
  apply Array.ext_getElem?;intro j;by_cases hj:j < 21
  ·have hj2:j < (cfC x).length:=by rw [dF];exact hj
   have h1:=hr j _ (i9 hj2);rw [m9] at h1;have h2:(w.setCells b 0 (cfC x)).cell? ⟨b,j,none⟩=C'[j]?:=(by simp [World.cell?,hC']);rw [<- h2,h1];unfold cfA;rw [List.getElem?_toArray,i9 hj2]
  ·rw [Array.getElem?_eq_none (by omega),Array.getElem?_eq_none (by rw [lU];omega)]
 have hbox:BoxC (w.setCells b 0 (cfC x)) b x:=by unfold BoxC;rw [hC',hE]
 have hfr:=qP b (cfC x) 0 w;have hk:=h _ hbox hfr;rw [<- aA3] at hk;exact wpList_store_mid hgd 87 xo yo ho b 0 (cfA x) hx hy hth (by rw [oC,lU]) (by unfold cfA;exact all_oneCell_toArray (rJ x)) hk
theorem BoxC.setp{b:Nat}{x:Cf}(h:BoxC V b x)(j:Nat):BoxC (V.setCell ⟨b,0,none⟩ (.I (j:Int))) b ⟨j,x.g⟩:=aN h 0 (.I (j:Int))
theorem BoxC.p{b:Nat}{x:Cf}(h:BoxC V b x):V.cell? ⟨b,0,none⟩=some (.I (x.p:Int)):=aA h rfl
theorem BoxC.frz{b:Nat}{x:Cf}(h:BoxC V b x)(j:Nat):V.frozen? ⟨b,j,none⟩=false:=aG h j
theorem BoxC.lt{b:Nat}{x:Cf}(h:BoxC V b x):b < V.heap.size:=aB h
theorem BoxC.kept{b:Nat}{x:Cf}(h:BoxC V b x)(hb:wBl V V'):BoxC V' b x:=(hb.block _ (aB h)).trans h
structure ES(H:Gh)(w:World)(rs:lOn)(wk:Int)(mu:Bool)(V:World)(rs':lOn)(wk':Int)(mu':Bool):Prop where
 wm:WM H V rs' wk' mu'
 g:Grw w.heap.size rs rs'
 f:Fr (fun k=>wf H rs k\/False) w V
 mo:mu=true->mu'=true
 wkm:mu'=false->wk<=wk'
variable {w:World}
theorem ES.refl(h:WM H w rs wk mu):ES H w rs wk mu w rs wk mu:=⟨h,Grw.refl _ _,Fr.refl _ _,fun e=>e,fun _=>aAH _⟩
theorem ES.below(h:ES H w rs wk mu V rs' wk' mu')(hb:wBl V V'):ES H w rs wk mu V' rs' wk' mu':=⟨h.wm.below hb,h.g,h.f.then hb,h.mo,h.wkm⟩
theorem ES.then{S:Nat->Prop}{wk2:Int}{mu2:Bool}(h:ES H w rs wk mu V rs' wk' mu')(hw:WM H V' rs'' wk2 mu2)(hg:Grw V.heap.size rs' rs'')(hf:Fr (fun k=>wf H rs' k\/S k) V V')(hS:∀ k,S k->w.heap.size<=k)(hm:mu'=true->mu2=true)(hkm:mu2=false->wk'<=wk2):ES H w rs wk mu V' rs'' wk2 mu2:=
 ⟨hw,h.g.trans hg h.f.size,pA h.f h.g hf (fun i e=>.inr (hS i e)),fun e=>hm (h.mo e),fun e=>Int.le_trans (h.wkm (by
  cases h2:mu' with
  | false=>rfl
  | true=>have:=hm h2;rw [e] at this;cases this)) (hkm e)⟩
theorem ES.put{base:Nat}{q q':Option Addr}{c c':Nat}{l l':List Cf}{x:Cf}{wk2:Int}{mu2:Bool}(h:ES H w rs wk mu V rs' wk' mu')(hl:CR12 base V q c l)(hbs:w.heap.size<=base)(hp:PuI H V rs' wk' mu' base q c l x q' c' l' wk2 mu2 V'):ES H w rs wk mu V' rs' wk2 mu2:=
 h.then (S:=fun k=>(Value.slice q l.length c).ownBlock=some k) hp.wm (Grw.refl _ _) (hp.f.mono fun _ e=>e.imp .inl id) (fun _ hk=>m8 hbs (aF hl hk).1) hp.mo hp.wkm
theorem BoxC.put{b base:Nat}{q q':Option Addr}{c c':Nat}{l l':List Cf}{x y:Cf}{wk2:Int}{mu2:Bool}(h:BoxC V b y)(hw:WM H V rs' wk' mu')(hl:CR12 base V q c l)(hb:b < base)(hp:PuI H V rs' wk' mu' base q c l x q' c' l' wk2 mu2 V'):BoxC V' b y:=
 (hp.f.block b (aB h) (fun e=>by
  rcases e with e | e
  ·exact bH h hw.hd (by decide) e
  ·have:=(aF hl e).1;omega)).trans h
theorem bU3{b base:Nat}{q q':Option Addr}{c c':Nat}{l l':List Cf}{f:Fl}{x:Cf}{wk2:Int}{mu2:Bool}(h:BoxN V b f)(hw:WM H V rs' wk' mu')(hl:CR12 base V q c l)(hp:PuI H V rs' wk' mu' base q c l x q' c' l' wk2 mu2 V'):BoxN V' b f:=
 (hp.f.block b (aB h) (fun e=>by
  rcases e with e | e
  ·exact bH h hw.hd (by decide) e
  ·obtain⟨-,-,cur,hc⟩:=aF hl e;exact bH h hc (by decide) rfl)).trans h
theorem bA2{base base':Nat}{q q' k:Option Addr}{c c' kc:Nat}{l l':List Cf}{m:List Nat}{x:Cf}{wk2:Int}{mu2:Bool}(h:Ls12 base' V k kc m)(hw:WM H V rs' wk' mu')(hl:CR12 base V q c l)(hp:PuI H V rs' wk' mu' base q c l x q' c' l' wk2 mu2 V'):Ls12 base' V' k kc m:=
 aH h hp.f (fun g hg e=>by
  obtain⟨-,-,cur,hc⟩:=aF h hg;rcases e with e | e
  ·exact bH hc hw.hd (by decide) e
  ·obtain⟨-,-,cur',hc'⟩:=aF hl e;exact bH hc hc' (by decide) rfl)
def EnP(H:Gh)(W:World)(rs:lOn)(wk:Int)(mu:Bool)(base:Nat)(R:Cf->Prop)(e:Ending)(W':World):Prop:=∃ (q:Option Addr) (c:Nat) (l:List Cf) (rs':lOn) (wk':Int) (mu':Bool),
 e=.returned (.slice q l.length c)/\CR12 base W' q c l/\l.length<=20001/\(∀ y∈l,R y)/\(mu'=false->∀ y,R y->y∈l)/\ES H W rs wk mu W' rs' wk' mu'
def EnC(H:Gh)(n:Nat):Prop:=∀ (i:Nat) (x:Cf) (z:Zl) (W:World) (rs:lOn) (wk:Int) (mu:Bool),H.Z[i]?=some z->z.1.2.sz<=n->Vf H.L x->WM H W rs wk mu ->
 Calls Tryz.prog 35 #[.pointer (some ⟨H.b,0,none⟩),.I (i:Int),.agg (cfA x)] W (EnP H W rs wk mu W.heap.size (Mt H.L z.1.2 x))
end
section
attribute [local go_sem] Oper.semAt_some
variable {H:Gh} {V V':World} {rs rs' rs'':lOn} {wk wk':Int} {mu mu' mu'':Bool}
structure EI12(H:Gh)(w:World)(rs:lOn)(wk:Int)(x:Cf)(lq:Option Addr)(lc:Nat)(m:List Nat)(k:Nat)(q:Option Addr)(c:Nat)(out:List Cf)(rs':lOn)(wk':Int)(mu':Bool)(V:World):Prop where
 es:ES H w rs wk false V rs' wk' mu'
 bx:BoxC V w.heap.size x
 ll:Ls12 H.base V lq lc m
 cr:CR12 (w.heap.size+1) V q c out
 n:out.length<=20000
 nw:mu'=false->(out.length:Int)<=wk'
 s:∀ y∈out,y.g=x.g/\y.p∈m.take k
 c:mu'=false->∀ j∈m.take k,(⟨j,x.g⟩:Cf)∈out
variable {w:World} {x:Cf} {lq q q':Option Addr} {lc k c c':Nat} {m:List Nat} {out l':List Cf}
theorem EI12.below(h:EI12 H w rs wk x lq lc m k q c out rs' wk' mu' V)(hb:wBl V V'):EI12 H w rs wk x lq lc m k q c out rs' wk' mu' V':=
 ⟨h.es.below hb,h.bx.kept hb,h.ll.kept hb,h.cr.kept hb,h.n,h.nw,h.s,h.c⟩
theorem EI12.put{j:Nat}{wk2:Int}{mu2:Bool}(h:EI12 H w rs wk x lq lc m k q c out rs' wk' mu' V)(hj:m[k]?=some j)(hp:PuI H V rs' wk' mu' (w.heap.size+1) q c out ⟨j,x.g⟩ q' c' l' wk2 mu2 V'):EI12 H w rs wk x lq lc m (k+1) q' c' l' rs' wk2 mu2 V':=by
 have ht:m.take (k+1)=m.take k ++ [j]:=by rw [t7,hj];rfl
 refine⟨h.es.put h.cr (by omega) hp,h.bx.put h.es.wm h.cr (by omega) hp,bA2 h.ll h.es.wm h.cr hp,hp.cr,hp.n,hp.nw,fun y hy=>?_,fun e i hi=>?_⟩
 ·rw [ht];have old:y∈out->y.g=x.g/\y.p∈m.take k ++ [j]:=fun q=>⟨(h.s y q).1,o3.2 (.inl (h.s y q).2)⟩;rcases hp.is with e | e
  ·rw [e] at hy;exact old hy
  ·rw [e] at hy;rcases o3.1 hy with r | r
   ·exact old r
   ·rw [t8.1 r];exact⟨rfl,by simp⟩
 ·rw [ht] at hi;have hmu:mu'=false:=by
   cases h2:mu' with
   | false=>rfl
   | true=>have:=hp.mo h2;rw [e] at this;cases this
  rcases o3.1 hi with r | r
  ·have:=h.c hmu i r;rcases hp.is with e2 | e2
   ·rw [e2];exact this
   ·rw [e2];exact o3.2 (.inl this)
  ·rw [t8.1 r];exact hp.has e
theorem aH0(hk:Gk H){w:World}(hw:WM H w rs wk false){i:Nat}{z:Zl}(hz:H.Z[i]?=some z)(hx:Vf H.L x)(hpl:PlT H.L z.1.2) :
  Calls Tryz.prog 35 #[.pointer (some ⟨H.b,0,none⟩),.I (i:Int),.agg (cfA x)] w (EnP H w rs wk false w.heap.size (Mt H.L z.1.2 x)):=by
 have B0:Hid (wBl w (w.alloc (.cells (cfA x) 87))):=bz9;have X0:Hid (BoxC (w.alloc (.cells (cfA x) 87)) w.heap.size x):=aE w _;have W0:=aC (hw.below B0.o);have hil:=(m7.1 hz).1;have iil:(i:Int) < (H.Z.length:Int):=by omega
 have hlen:=hk.len;have hsm:=hk.sm;have HZ:=aC hz;have HX:=aC hx;have HPL:=aC hpl;have PC:=aC (fun (V:World) (rs':lOn) (wk':Int) (mu':Bool) (h:WM H V rs' wk' mu')=>vD hk z.1.2.sz i x.p z V rs' wk' mu' hz lz9 hpl hx.p h);have HMP:Hid (∀ y,Mt H.L z.1.2 x y ↔ y.g=x.g/\Ps H.L z.1.2 x.p y.p):=fun y=>zF hpl x y;have HLE:Hid (∀ j,Ps H.L z.1.2 x.p j->j<=H.L.s.size):=fun j h=>(bP4 hpl hx.p h).2;have HPB:Hid (plB H.L z.1.2=true):=aC (by unfold plB;simpa using hpl);have HBS:Hid (H.base<=w.heap.size):=aC (aBD (aBU hw.bb hw.b_lt));clear hw hk hz hx hpl;go_enter Tryz.func35,Tryz.ntmps35;go_upto_region 1 with fail
 generalize (w.alloc (.cells (cfA x) 87))=w1 at B0 X0 W0 ⊢;have E1:Hid (ES H w rs wk false w1 rs wk false):=⟨W0.o,Grw.refl _ _,Fr.of_below B0.o,fun e=>(by cases e),fun _=>aAH _⟩;have c0:=W0.o.cell (i:=0) rfl;have c14:=W0.o.cell (i:=14) rfl;have c17:=W0.o.cell (i:=17) (v:=.bool false) rfl;have y0:=W0.o.z.cells HZ.o (j:=0) (v:=.I z.1.2.f.k) rfl;have y1:=W0.o.z.cells HZ.o (j:=1) (v:=.I z.1.2.f.n) rfl;have y2:=W0.o.z.cells HZ.o (j:=2) (v:=.I z.1.2.f.mn) rfl;have y3:=W0.o.z.cells HZ.o (j:=3) (v:=.I z.1.2.f.mx) rfl;have y4:=W0.o.z.cells HZ.o (j:=4) (v:=.slice z.1.2.f.rq z.1.2.f.rs.length z.1.2.f.rc) rfl;have y5:=W0.o.z.cells HZ.o (j:=5) (v:=.slice z.1.2.f.kq z.1.2.f.kl z.1.2.f.kc) rfl;rw [aAQ] at y0;go_upto_region 5 with fail
 have B2:Hid (wBl w1 (w1.alloc (.cells (nDf z.1.2.f) 25))):=bz9;have E2:=aC (E1.o.below B2.o);have X2:=aC (X0.o.kept B2.o);generalize (w1.alloc (.cells (nDf z.1.2.f) 25))=w2 at B2 E2 X2 ⊢;have d14:=E2.o.wm.cell (i:=14) rfl;have p0:w2.cell? ⟨H.pb,i,none⟩=some (.bool true):=by
  have:=aM E2.o.wm.pl (j:=i) (u:=.bool (plB H.L z.1.2)) (by simp [HZ.o]);rw [this,HPB.o]
 clear c0 c14 c17 y0 y1 y2 y3 y4 y5;have xp:=X2.o.p;have PW:=aC (PC.o w2 rs wk false E2.o.wm);go_upto_region 8 with (go_at_call 70;(with_reducible refine(PW.o).mono ?_);rintro e w3 ⟨lq,lc,m,rs3,rfl,h31,h32,h33,h34,h35⟩;have L3:=aC h31;have M3:=aC h32;have E3:=aC (E2.o.then h33 h34 h35 (fun _ e=>e.elim) (fun e=>e) (fun _=>aAH _));have X3:Hid (BoxC w3 w.heap.size x):=(iK E2.o.wm h35 X2.o ⟨by decide,by decide,by decide⟩ (fun e=>e));clear h31 h32 h33 h34 h35)
 clear d14 p0 xp;have hml:m.length<=1001:=by
  have key:∀ (l:List Nat) (n b:Nat),l.Pairwise (· < ·)->(∀ j∈l,b<=j/\j < b+n)->l.length<=n:=by
   intro l
   induction l with
   | nil=>intro n b _ _;simp
   | cons y l ih=>
    intro n b hpw hm;obtain⟨n',rfl⟩:∃ n',n=n'+1:=⟨n - 1,by have:=hm y (by simp);omega⟩;have:=ih n' (b+1) (aAP.1 hpw).2 (fun j hj=>by
     have h3:=(aAP.1 hpw).1 j hj;have h4:=hm y (by simp);have h5:=hm j (by simp [hj]);omega)
    simp;omega
  have:=key m (H.L.s.size+1) 0 M3.o.2 (fun j hj=>by have:=HLE.o j ((M3.o.1 j).1 hj);omega);omega
 have I3:Hid (EI12 H w rs wk x lq lc m 0 none 0 [] rs3 wk false w3):=⟨E3.o,X3.o,L3.o,CR12.nil _ _,by simp,fun _=>by simpa using (E3.o.wm.wk rfl).1,fun y hy=>(by cases hy),fun _ j hj=>by rw [v9] at hj;cases hj⟩;clear E3 X3 L3;go_loopw [7,10] (fun ov kv wr=>∃ (k:Nat) (q:Option Addr) (c:Nat) (out:List Cf) (rs':lOn) (wk':Int) (mu':Bool),k<=m.length/\ov=.slice q out.length c/\kv=.I (k:Int)/\EI12 H w rs wk x lq lc m k q c out rs' wk' mu' wr) (fun _ kv _=>m.length - (intOf kv).toNat)
 case atStart=>exact⟨0,none,0,[],rs3,wk,false,o9 _,rfl,rfl,I3.o⟩
 case round=>
  obtain⟨k,q,c,out,rs4,wk4,mu4,hk4,rfl,rfl,hi4⟩:=hrel;have I4:=aC hi4;clear hi4 I3;by_cases hkl:k < m.length
  ·have i0:(k:Int) < (m.length:Int):=by omega
   have hw3:IntKind.wrap .i64 ((k:Int)+1)=(k:Int)+1:=wrap_small _ (by omega) (by omega);obtain⟨j,hj⟩:∃ j,m[k]?=some j:=⟨_,i9 hkl⟩;have HJ:=aC hj;obtain⟨gl,rfl,gl1,gl2,gl3⟩:=I4.o.ll.at (by omega);have RX:=aC I4.o.bx.get;clear hj;go_upto_region 11 with first
    |((with_reducible refine gP ?_);refine bY rfl _ rfl w.heap.size 0 rfl x RX.o ?_)
    |((with_reducible refine aH5 ?_);refine nB rfl _ _ rfl wr.heap.size x rfl rfl (aE _ _) rfl ?_;intro w5 hb5 hf5;have X5:=aC hb5;have B5:Hid (wBl wr w5):=bB ((Below.refl _ wr).alloc lz9 _) hf5 lz9 (fun k e=>by omega);clear hb5 hf5)
   have I5:=aC (I4.o.below B5.o);have lj:=I5.o.ll.cell HJ.o;have xp:=X5.o.p;have xf:=X5.o.frz 0;have hnb:gl≠wr.heap.size:=(by omega);go_upto_region 12 with fail
   have X6:=aC (X5.o.setp j);have B6:Hid (wBl wr (w5.setCell ⟨wr.heap.size,0,none⟩ (.I (j:Int)))):=(Fr.of_below (S:=fun _=>False) B5.o).setNew (p:=⟨wr.heap.size,0,none⟩) lz9 _ |>.below lz9 (fun _ q=>q.elim);generalize (w5.setCell ⟨wr.heap.size,0,none⟩ (.I (j:Int)))=w6 at X6 B6 ⊢;have I6:=aC (I4.o.below B6.o);clear lj xp xf I5 X5 B5;have RX6:=aC X6.o.get;have hxg:Hid ((⟨j,x.g⟩:Cf).g.length=10):=aC HX.o.g;have hten:Hid (Ten out):=fun y hy=>by rw [(I6.o.s y hy).1];exact HX.o.g
   have PU:=aC (iY (x:=⟨j,x.g⟩) I6.o.es.wm I6.o.cr (Nat.succ_le_of_lt (aB I6.o.bx)) (aCB HBS.o) hten.o hxg.o I6.o.n I6.o.nw);go_upto_region 9 with first
    |((with_reducible refine gP ?_);refine bY rfl _ rfl wr.heap.size 0 rfl ⟨j,x.g⟩ RX6.o ?_)
    |(go_at_call 71;(with_reducible refine(PU.o).mono ?_);rintro e w7 ⟨q7,c7,l7,wk7,mu7,rfl,hp7⟩;have I7:=aC (I6.o.put HJ.o hp7);clear hp7)
   go_wp2;go_roundw
   case rel=>exact⟨k+1,q7,c7,l7,rs4,wk7,mu7,by omega,rfl,by go_num,I7.o⟩
   case measure=>simp only [intOf];omega
  ·have i0:¬ (k:Int) < (m.length:Int):=by omega
   have HT:Hid (m.take k=m):=aC (n8 (by omega));go_wp2;go_ret;refine⟨q,c,out,rs4,wk4,mu4,rfl,bE I4.o.cr (Nat.le_succ _),aCB I4.o.n,fun y hy=>?_,fun e y hy=>?_,I4.o.es⟩
   ·have:=I4.o.s y hy;rw [HT.o,M3.o.1] at this;exact(HMP.o y).2 this
   ·have h1:=(HMP.o y).1 hy;have h2:=I4.o.c e y.p (by rw [HT.o,M3.o.1];exact h1.2);obtain⟨yp,yg⟩:=y;have h3:yg=x.g:=h1.1;rw [h3];exact h2
end
section
attribute [local go_sem] Oper.semAt_some
variable {H:Gh} {V V':World} {rs rs' rs'':lOn} {wk wk':Int} {mu mu' mu'':Bool}
def ArgC(V:World)(q:Option Addr)(l:List Cf):Prop:=∀ (i:Nat) (y:Cf),l[i]?=some y->∃ g o,q=some ⟨g,o,none⟩/\(∃ cs,V.heap[g]?=some (.cells cs 87 (0,0)))/\V.rangeAt g (o+i * 21) (cfC y)
theorem aE2{g o:Nat}{cs:List Value}(h:V.rangeAt g o cs)(e:V'.heap[g]?=V.heap[g]?):V'.rangeAt g o cs:=fun j v hv=>by
 have:=h j v hv;unfold World.cell? at this ⊢;rw [e];exact this
theorem ArgC.same{q:Option Addr}{l:List Cf}(h:ArgC V q l)(he:∀ g o cs,q=some ⟨g,o,none⟩->V.heap[g]?=some (.cells cs 87 (0,0))->V'.heap[g]?=V.heap[g]?):ArgC V' q l:=fun i y hy=>by
 obtain⟨g,o,h1,⟨cs,h2⟩,h3⟩:=h i y hy;have e:=he g o cs h1 h2;exact⟨g,o,h1,⟨cs,e.trans h2⟩,aE2 h3 e⟩
theorem CR12.arg{base:Nat}{q:Option Addr}{c:Nat}{l:List Cf}(h:CR12 base V q c l):ArgC V q l:=fun i y hy=>by
 obtain⟨g,rfl,h1,h2,h3⟩:=h.at (by have:=(m7.1 hy).1;omega);exact⟨g,0,rfl,h3,by rw [m9];exact h.get hy⟩
variable {w:World} {q oq oq' mq:Option Addr} {oc oc' k j mc:Nat} {l out out' m:List Cf} {R:Cf->Cf->Prop} {F:Cf->Prop}
theorem ArgC.es(h:ArgC w q l)(hw:WM H w rs wk mu'')(he:ES H w rs wk mu V rs' wk' mu'):ArgC V q l:=h.same fun g o cs _ hc=>by
 have:=iK hw he.f hc ⟨by decide,by decide,by decide⟩ (fun e=>e);rw [this,hc]
structure EA12(H:Gh)(w:World)(rs:lOn)(wk:Int)(mu:Bool)(l:List Cf)(R:Cf->Cf->Prop)(k:Nat)(oq:Option Addr)(oc:Nat)(out:List Cf)(rs':lOn)(wk':Int)(mu':Bool)(V:World):Prop where
 es:ES H w rs wk mu V rs' wk' mu'
 cr:CR12 w.heap.size V oq oc out
 n:out.length<=20000
 nw:mu'=false->(out.length:Int)<=wk'
 s:∀ y∈out,∃ x∈l.take k,R x y
 c:mu'=false->∀ x∈l.take k,∀ y,R x y->y∈out
structure EB12(H:Gh)(w:World)(rs:lOn)(wk:Int)(mu:Bool)(l:List Cf)(R:Cf->Cf->Prop)(k:Nat)(F:Cf->Prop)(mq:Option Addr)(mc:Nat)(m:List Cf)(j:Nat)(oq:Option Addr)(oc:Nat)(out:List Cf)(rs':lOn)(wk':Int)(mu':Bool)(V:World):Prop where
 es:ES H w rs wk mu V rs' wk' mu'
 cr:CR12 w.heap.size V oq oc out
 ml:CR12 w.heap.size V mq mc m
 ap:∀ g,(Value.slice mq m.length mc).ownBlock=some g->(Value.slice oq out.length oc).ownBlock≠some g
 n:out.length<=20000
 nw:mu'=false->(out.length:Int)<=wk'
 s:∀ y∈out,(∃ x∈l.take k,R x y)\/(y∈m.take j/\F y)
 c:mu'=false->(∀ x∈l.take k,∀ y,R x y->y∈out)/\∀ y∈m.take j,F y->y∈out
theorem EB12.below(h:EB12 H w rs wk mu l R k F mq mc m j oq oc out rs' wk' mu' V)(hb:wBl V V'):EB12 H w rs wk mu l R k F mq mc m j oq oc out rs' wk' mu' V':=
 ⟨h.es.below hb,h.cr.kept hb,h.ml.kept hb,h.ap,h.n,h.nw,h.s,h.c⟩
theorem EB12.put{y:Cf}{wk2:Int}{mu2:Bool}(h:EB12 H w rs wk mu l R k F mq mc m j oq oc out rs' wk' mu' V)(hy:m[j]?=some y)(hF:F y)(hp:PuI H V rs' wk' mu' w.heap.size oq oc out y oq' oc' out' wk2 mu2 V'):EB12 H w rs wk mu l R k F mq mc m (j+1) oq' oc' out' rs' wk2 mu2 V':=by
 have ht:m.take (j+1)=m.take j ++ [y]:=by rw [t7,hy];rfl
 have hsub:∀ z∈out,z∈out':=fun z hz=>by
  rcases hp.is with e | e
  ·rw [e];exact hz
  ·rw [e];exact o3.2 (.inl hz)
 refine⟨h.es.put h.cr lz9 hp,hp.cr,?_,fun g hg e=>?_,hp.n,hp.nw,fun z hz=>?_,fun e=>?_⟩
 ·refine aH h.ml hp.f (fun g hg e=>?_);rcases e with e | e
  ·obtain⟨-,-,cur,hc⟩:=aF h.ml hg;exact bH hc h.es.wm.hd (by decide) e
  ·exact h.ap g hg e
 ·rcases hp.mv with r | r | ⟨g',r1,r2⟩
  ·rw [r] at e;exact h.ap g hg e
  ·rw [r] at e;cases e
  ·rw [r2] at e;have:=(aF h.ml hg).2.1;have:=t6 e;omega
 ·rw [ht];have old:z∈out->(∃ x∈l.take k,R x z)\/(z∈m.take j ++ [y]/\F z):=fun q=>(h.s z q).imp id fun r=>⟨o3.2 (.inl r.1),r.2⟩;rcases hp.is with e | e
  ·rw [e] at hz;exact old hz
  ·rw [e] at hz;rcases o3.1 hz with r | r
   ·exact old r
   ·rw [t8.1 r];exact .inr ⟨by simp,hF⟩
 ·have hmu:mu'=false:=by
   cases h2:mu' with
   | false=>rfl
   | true=>have:=hp.mo h2;rw [e] at this;cases this
  obtain⟨c1,c2⟩:=h.c hmu;refine⟨fun x hx z hz=>hsub z (c1 x hx z hz),fun z hz hz2=>?_⟩;rw [ht] at hz;rcases o3.1 hz with r | r
  ·exact hsub z (c2 z r hz2)
  ·rw [t8.1 r];exact hp.has e
theorem EB12.skip{y:Cf}(h:EB12 H w rs wk mu l R k F mq mc m j oq oc out rs' wk' mu' V)(hy:m[j]?=some y)(hF:¬ F y):EB12 H w rs wk mu l R k F mq mc m (j+1) oq oc out rs' wk' mu' V:=by
 have ht:m.take (j+1)=m.take j ++ [y]:=by rw [t7,hy];rfl
 refine⟨h.es,h.cr,h.ml,h.ap,h.n,h.nw,fun z hz=>(h.s z hz).imp id fun r=>⟨by rw [ht];exact o3.2 (.inl r.1),r.2⟩,fun e=>⟨(h.c e).1,fun z hz hz2=>?_⟩⟩;rw [ht] at hz;rcases o3.1 hz with r | r
 ·exact(h.c e).2 z r hz2
 ·rw [t8.1 r] at hz2;exact absurd hz2 hF
theorem EA12.into{rs2:lOn}{wk2:Int}{mu2:Bool}(h:EA12 H w rs wk mu l R k oq oc out rs' wk' mu' V)(he:ES H V rs' wk' mu' V' rs2 wk2 mu2)(hm:CR12 V.heap.size V' mq mc m):EB12 H w rs wk mu l R k F mq mc m 0 oq oc out rs2 wk2 mu2 V':=by
 have hmu:mu2=false->mu'=false:=fun e=>by
  cases h2:mu' with
  | false=>rfl
  | true=>have:=he.mo h2;rw [e] at this;cases this
 refine⟨h.es.then he.wm he.g he.f (fun _ e=>e.elim) he.mo he.wkm,?_,bE hm h.es.f.size,fun g hg e=>?_,h.n,fun e=>Int.le_trans (h.nw (hmu e)) (he.wkm e),fun y hy=>.inl (h.s y hy),fun e=>⟨h.c (hmu e),fun y hy=>by rw [v9] at hy;cases hy⟩⟩
 ·exact iM h.cr h.es.wm he.f (fun _ _ e=>e) ⟨by decide,by decide,by decide⟩
 ·have h1:=(aF hm hg).1;have h2:=(aF h.cr e).2.1;omega
end
section
attribute [local go_sem] Oper.semAt_some aS
variable {H:Gh} {V V':World} {rs rs' rs'':lOn} {wk wk':Int} {mu mu' mu'':Bool}
def Rf(L:Ln)(t:Tr)(fu:Bool)(x y:Cf):Prop:=Mt L t x y/\fuP fu x.p y.p
theorem bY3{b o:Nat}{x:Cf}(h:V.rangeAt b o (cfC x)):V.cell? ⟨b,o,none⟩=some (.I (x.p:Int)):=by
 have:=h 0 (.I (x.p:Int)) rfl;simpa using this
theorem zY{n:Nat}(hE:EnC H n){w:World}(hw:WM H w rs wk mu){i:Nat}{z:Zl}(hz:H.Z[i]?=some z)(hn:z.1.2.sz<=n){q:Option Addr}{c:Nat}{l:List Cf}(ha:ArgC w q l)(hq:∀ x∈l,Vf H.L x)(hl:l.length<=20001)(fu:Bool) :
  Calls Tryz.prog 73 #[.pointer (some ⟨H.b,0,none⟩),.slice q l.length c,.I (i:Int),.bool fu] w (EnP H w rs wk mu w.heap.size (fun y=>∃ x∈l,Rf H.L z.1.2 fu x y)):=by
 have HW:=aC hw;have HA:=aC ha;have HQ:=aC hq;have HEC:=aC (fun (x:Cf) (V:World) (rs':lOn) (wk':Int) (mu':Bool) (hx:Vf H.L x) (h:WM H V rs' wk' mu')=>hE i x z V rs' wk' mu' hz hn hx h);have HBS:Hid (H.base<=w.heap.size):=aC (aBD (aBU hw.bb hw.b_lt));have A0:Hid (EA12 H w rs wk mu l (Rf H.L z.1.2 fu) 0 none 0 [] rs wk mu w):=⟨ES.refl hw,CR12.nil _ _,by simp,fun e=>by simpa using (hw.wk e).1,fun y hy=>(by cases hy),fun _ x hx=>by rw [v9] at hx;cases hx⟩;clear hE hw hz hn ha hq;go_enter Tryz.func73,Tryz.ntmps73;go_upto_region 3 with fail
 go_loopw [9,10] (fun ov kv wr=>∃ (k:Nat) (oq:Option Addr) (oc:Nat) (out:List Cf) (rs':lOn) (wk':Int) (mu':Bool),k<=l.length/\ov=.slice oq out.length oc/\kv=.I (k:Int)/\EA12 H w rs wk mu l (Rf H.L z.1.2 fu) k oq oc out rs' wk' mu' wr) (fun _ kv _=>l.length - (intOf kv).toNat)
 case atStart=>exact⟨0,none,0,[],rs,wk,mu,o9 _,rfl,rfl,A0.o⟩
 case round=>
  obtain⟨k,oq,oc,out,rs4,wk4,mu4,hk4,rfl,rfl,ha4⟩:=hrel;have A4:=aC ha4;clear ha4 A0;have c17:=A4.o.es.wm.cell (i:=17) (v:=.bool mu4) rfl;have DONE:Hid ((mu4=false->k=l.length)->EnP H w rs wk mu w.heap.size (fun y=>∃ x∈l,Rf H.L z.1.2 fu x y) (.returned (.slice oq out.length oc)) wr):=fun h=>by
   refine⟨oq,oc,out,rs4,wk4,mu4,rfl,A4.o.cr,aCB A4.o.n,fun y hy=>?_,fun e y hy=>?_,A4.o.es⟩
   ·obtain⟨x,hx,h⟩:=A4.o.s y hy;exact⟨x,aAJ hx,h⟩
   ·obtain⟨x,hx,h2⟩:=hy;refine A4.o.c e x ?_ y h2;rw [h e,n8 lz9];exact hx
  by_cases hkl:k < l.length
  ·have i0:(k:Int) < (l.length:Int):=by omega
   have hw3:IntKind.wrap .i64 ((k:Int)+1)=(k:Int)+1:=wrap_small _ (by omega) (by omega)
   cases mu4 with
   | true=>
    have D:=aC (DONE.o (fun e=>by cases e));clear DONE;go_wp2;go_ret;exact D.o
   | false=>
    clear DONE;obtain⟨x,hx⟩:∃ x,l[k]?=some x:=⟨_,i9 hkl⟩;have HX:=aC hx;obtain⟨g,o,hqq,hgb,hrg⟩:=(HA.o.es HW.o A4.o.es) k x hx;have RX:=aC hrg;have HQ2:=aC hqq;have EC:=aC (HEC.o x wr rs4 wk4 false (HQ.o x (n7 hx)) A4.o.es.wm);clear hx hgb hrg;subst hqq;go_upto_region 7 with first
     |((with_reducible refine gP ?_);refine bY rfl _ rfl g (o+k * 21) rfl x RX.o ?_)
     |(go_at_call 35;(with_reducible refine(EC.o).mono ?_);rintro e w5 ⟨mq,mc,m,rs5,wk5,mu5,rfl,h51,h52,h53,h54,h55⟩;have I5:=aC (A4.o.into (F:=fun y=>fuP fu x.p y.p) h55 h51);have hml:=h52;have MS:=aC h53;have MC:=aC h54;clear h51 h52 h53 h54 h55)
    have HTK:Hid (l.take (k+1)=l.take k ++ [x]):=aC (by rw [t7,HX.o];rfl);clear c17 A4;go_loopw [9,12] (fun ov jv wr=>∃ (j:Nat) (oq:Option Addr) (oc:Nat) (out:List Cf) (rs':lOn) (wk':Int) (mu':Bool),j<=m.length/\ov=.slice oq out.length oc/\jv=.I (j:Int)/\(mu'=false->mu5=false)/\EB12 H w rs wk mu l (Rf H.L z.1.2 fu) k (fun y=>fuP fu x.p y.p) mq mc m j oq oc out rs' wk' mu' wr) (fun _ jv _=>m.length - (intOf jv).toNat)
    case atStart=>exact⟨0,oq,oc,out,rs5,wk5,mu5,o9 _,rfl,rfl,fun e=>e,I5.o⟩
    case round=>
     obtain⟨j,oq6,oc6,out6,rs6,wk6,mu6,hj6,rfl,rfl,hm6,hb6⟩:=hrel;have I6:=aC hb6;have HM6:=aC hm6;clear hb6 I5 hm6;by_cases hjl:j < m.length
     ·have i1:(j:Int) < (m.length:Int):=by omega
      have hw4:IntKind.wrap .i64 ((j:Int)+1)=(j:Int)+1:=wrap_small _ (by omega) (by omega);obtain⟨y,hy⟩:∃ y,m[j]?=some y:=⟨_,i9 hjl⟩;have HY:=aC hy;obtain⟨gm,rfl,gm1,gm2,gm3⟩:=I6.o.ml.at (by omega);have RY:=aC (I6.o.ml.get hy);have HYG:Hid (y.g.length=10):=aC (dC z.1.2 x y (MS.o y (n7 hy)) (HQ.o x (n7 HX.o))).1.g;have hten:Hid (Ten out6):=fun v hv=>by
       rcases I6.o.s v hv with⟨x',hx',h⟩ | h
       ·exact(dC z.1.2 x' v h.1 (HQ.o x' (aAJ hx'))).1.g
       ·exact(dC z.1.2 x v (MS.o v (aAJ h.1)) (HQ.o x (n7 HX.o))).1.g
      have yp:=bY3 RY.o;obtain⟨g',o',hq',⟨cs',hcs'⟩,hrg'⟩:=(HA.o.es HW.o I6.o.es) k x HX.o;injection hq' with hq1;injection hq1 with hq2 hq3;subst hq2 hq3;have xp:=bY3 hrg';have lg:=aB hcs';clear hy hrg' hcs';go_upto_region 9 with fail
      cases fu with
      | false=>
       have HF:Hid (fuP false x.p y.p):=fun e=>by cases e
       refine wx9 ?_
       repeat (go_big_quiet_step (first | exact rfl))
       refine wpQuiet_nil ?_;intro w7 hw7;have B7:=aC (aP hw7);clear hw7 yp xp;have I7:=aC (I6.o.below B7.o);have RY7:=aC (I7.o.ml.get HY.o);have PU:=aC (iY I7.o.es.wm I7.o.cr (m8 I7.o.es.f.size lz9) HBS.o hten.o HYG.o I7.o.n I7.o.nw);go_upto_region 8 with first
        |((with_reducible refine gP ?_);refine bY rfl _ rfl gm (j * 21) rfl y RY7.o ?_)
        |(go_at_call 71;(with_reducible refine(PU.o).mono ?_);rintro e w8 ⟨q8,c8,l8,wk8,mu8,rfl,hp8⟩;have M8:Hid (mu8=false->mu5=false):=fun e=>HM6.o (by cases h2:mu6 with | false=>rfl | true=>have:=hp8.mo h2;rw [e] at this;cases this);have I8:=aC (I7.o.put HY.o HF.o hp8);clear hp8)
       go_wp2;go_roundw
       case rel=>exact⟨j+1,q8,c8,l8,rs6,wk8,mu8,by omega,rfl,by go_num,M8.o,I8.o⟩
       case measure=>simp only [intOf];omega
      | true=>
       by_cases hxy:x.p < y.p
       ·have j0:(x.p:Int) < (y.p:Int):=by omega
        have HF:Hid (fuP true x.p y.p):=fun _=>hxy;clear hxy;refine wx9 ?_
        repeat (go_big_quiet_step (first | exact rfl))
        refine wpQuiet_nil ?_;intro w7 hw7;have B7:=aC (aP hw7);clear hw7 yp xp;have I7:=aC (I6.o.below B7.o);have RY7:=aC (I7.o.ml.get HY.o);have PU:=aC (iY I7.o.es.wm I7.o.cr (m8 I7.o.es.f.size lz9) HBS.o hten.o HYG.o I7.o.n I7.o.nw);go_upto_region 8 with first
         |((with_reducible refine gP ?_);refine bY rfl _ rfl gm (j * 21) rfl y RY7.o ?_)
         |(go_at_call 71;(with_reducible refine(PU.o).mono ?_);rintro e w8 ⟨q8,c8,l8,wk8,mu8,rfl,hp8⟩;have M8:Hid (mu8=false->mu5=false):=fun e=>HM6.o (by cases h2:mu6 with | false=>rfl | true=>have:=hp8.mo h2;rw [e] at this;cases this);have I8:=aC (I7.o.put HY.o HF.o hp8);clear hp8)
        go_wp2;go_roundw
        case rel=>exact⟨j+1,q8,c8,l8,rs6,wk8,mu8,by omega,rfl,by go_num,M8.o,I8.o⟩
        case measure=>simp only [intOf];omega
       ·have j0:¬ (x.p:Int) < (y.p:Int):=by omega
        have HF:Hid (¬ fuP true x.p y.p):=fun h=>hxy (h rfl);clear hxy;refine wx9 ?_
        repeat (go_big_quiet_step (first | exact rfl))
        refine wpQuiet_nil ?_;intro w7 hw7;have B7:=aC (aP hw7);clear hw7 yp xp;have I7:=aC (I6.o.below B7.o);have I8:=aC (I7.o.skip HY.o HF.o);go_wp2;go_roundw
        case rel=>exact⟨j+1,oq6,oc6,out6,rs6,wk6,mu6,by omega,rfl,by go_num,HM6.o,I8.o⟩
        case measure=>simp only [intOf];omega
     ·have i1:¬ (j:Int) < (m.length:Int):=by omega
      have HT:Hid (m.take j=m):=aC (n8 (by omega));have A7:Hid (EA12 H w rs wk mu l (Rf H.L z.1.2 fu) (k+1) oq6 oc6 out6 rs6 wk6 mu6 wr):=⟨I6.o.es,I6.o.cr,I6.o.n,I6.o.nw,fun y hy=>by
       rw [HTK.o];rcases I6.o.s y hy with⟨x',hx',h⟩ | h
       ·exact⟨x',o3.2 (.inl hx'),h⟩
       ·rw [HT.o] at h;exact⟨x,by simp,MS.o y h.1,h.2⟩,fun e x' hx' y hy=>by
       rw [HTK.o] at hx';obtain⟨c1,c2⟩:=I6.o.c e;rcases o3.1 hx' with r | r
       ·exact c1 x' r y hy
       ·rw [t8.1 r] at hy;refine c2 y ?_ hy.2;rw [HT.o];exact MC.o (HM6.o e) y hy.1⟩
      go_wp2;go_roundw
      case rel=>exact⟨k+1,oq6,oc6,out6,rs6,wk6,mu6,by omega,rfl,by go_num,A7.o⟩
      case measure=>simp only [intOf];omega
  ·have i0:¬ (k:Int) < (l.length:Int):=by omega
   have D:=aC (DONE.o (fun _=>by omega));clear DONE;go_wp2;go_ret;exact D.o
end
end Go.Proofs.YtdgfpiekjigfnaaGreatDoor
