/-
  Parts of the proof.
-/
import Derived.Test.YtlamifbjklpdbaaGreatLessProofA0
import Derived.Test.YtlamifbjklpdbaaGreatLessProofB18
import Derived.Test.YtlamifbjklpdbaaGreatLessProofB8
import Derived.Test.YtlamifbjklpdbaaGreatLessProofB12
import Derived.Test.YtlamifbjklpdbaaGreatLessProofB17
import Derived.Test.YtlamifbjklpdbaaGreatLessProofB0
set_option linter.unusedSimpArgs false
set_option maxRecDepth 100000
set_option maxHeartbeats 8000000
namespace Go.Proofs.YtlamifbjklpdbaaGreat
open Go Go.RowKit
theorem lD(W:World)(o:Obj):Below W.heap.size W (W.alloc o):=bz9
theorem aQ4(m:Bool)(w:World):Calls Tryz.prog 80 #[.bool m] w fun e w'=>∃ v,e=.returned v/\RR w.heap.size w' v (cN m)/\Below w.heap.size w w':=by
 cases m with
 | true=>
  go_enter Tryz.func80,Tryz.ntmps80
  go_wp2
  go_ret
  exact⟨_,rfl,World.ownsRow_lit w #[.int .i64 0,.int .i64 55295,.int .i64 57344,.int .i64 1114111] 2 lz9 (by unfold maxLen;omega) rfl,bz9⟩
 | false=>
  go_enter Tryz.func80,Tryz.ntmps80
  go_wp2
  go_ret
  exact⟨_,rfl,World.ownsRow_lit w #[.int .i64 0,.int .i64 255] 1 lz9 (by unfold maxLen;omega) rfl,bz9⟩
theorem aH1{w:World}{v:Value}{L:List (Int×Int)}{m:Bool}(h:ArgR w v L)(hF:Fit L)(hl:L.length<=1048580) :
  Calls Tryz.prog 57 #[v,.bool m] w (oD w (fun c=>In L c/\dQ m c) (L.length*(cN m).length)):=by
 have H:Hid (ArgR w v L/\Fit L):=⟨h,hF⟩
 have hc:=fX m
 have HM:Hid (L.length*(cN m).length+1<=8796093022208):=aB (by have:=Nat.mul_le_mul hl hc;omega)
 clear h hF
 go_enter Tryz.func57,Tryz.ntmps57
 go_wp2_with first
  |(go_at_call 80;refine(aQ4 m _).mono ?_;rintro e w5 ⟨v5,rfl,h1,h2⟩;have X5:Hid (RR w.heap.size w5 v5 (cN m)/\Below w.heap.size w w5):=⟨h1,h2⟩;clear h1 h2)
  |(go_at_call 59;refine(tC (H.out.1.kept X5.out.2) X5.out.1.arg H.out.2 (gQ m).fit (by omega) (by omega) HM.out).mono ?_;rintro e w6 ⟨v6,C6,rfl,h1,h2,h3,h4⟩;have X6:Hid (RR w5.heap.size w6 v6 C6/\IsC C6 (fun c=>In L c/\In (cN m) c)/\C6.length<=L.length*(cN m).length/\Below w5.heap.size w5 w6):=⟨h1,h2,h3,h4⟩;clear h1 h2 h3 h4)
 go_ret
 exact⟨_,_,rfl,X6.out.1.mono X5.out.2.size,X6.out.2.1.to fun c=>by rw [(gQ m).mem],X6.out.2.2.1,aF X5.out.2 X6.out.2.2.2 lz9⟩
theorem zH{w:World}{v:Value}{L:List (Int×Int)}{m:Bool}(h:ArgR w v L)(hF:Fit L)(hl:L.length<=1048580) :
  Calls Tryz.prog 35 #[v,.bool m] w fun e w'=>∃ b:Bool,e=.returned (.bool b)/\(b=true↔IsC L (fun c=>In L c/\dQ m c))/\Below w.heap.size w w':=by
 have H:Hid (ArgR w v L/\Fit L):=⟨h,hF⟩
 clear h hF
 go_enter Tryz.func35,Tryz.ntmps35
 go_wp2_with first
  |(go_at_call 57;refine(aH1 H.out.1 H.out.2 hl).mono ?_;rintro e w5 ⟨v5,C5,rfl,h1,h2,h3,h4⟩;have X5:Hid (RR w.heap.size w5 v5 C5/\IsC C5 (fun c=>In L c/\dQ m c)/\Below w.heap.size w w5):=⟨h1,h2,h4⟩;clear h1 h2 h3 h4)
  |(go_at_call 31;refine(qJ (H.out.1.kept X5.out.2.2) X5.out.1.arg).mono ?_;obtain⟨bb,hbb⟩:∃ bb,decide (L=C5)=bb:=⟨_,rfl⟩;rw [hbb];have EB:Hid (decide (L=C5)=bb):=hbb;clear hbb;rintro e w7 ⟨rfl,h1⟩;have X7:Hid (Below w5.heap.size w5 w7):=h1;clear h1)
 go_ret
 refine⟨bb,rfl,?_,aF X5.out.2.2 X7.out lz9⟩
 rw [<- EB.out,decide_eq_true_iff]
 constructor
 ·intro e
  have h2:=X5.out.2.1
  rw [<- e] at h2
  exact h2
 ·intro e
  exact e.one X5.out.2.1 fun _=>Iff.rfl
def shL(G:List (Int×Int))(j:Nat)(d:Int):List (Int×Int):=(G.take j).map fun r=>(r.1+d,r.2+d)
theorem qR{G:List (Int×Int)}{j:Nat}{r:Int×Int}(h:G[j]?=some r)(d:Int):shL G (j+1) d=shL G j d++[(r.1+d,r.2+d)]:=by
 obtain⟨hk,rfl⟩:=i7.1 h
 unfold shL
 rw [dI G j hk,o4]
 rfl
theorem uW(W:World)(a b:Int):ArgR (W.alloc (.cells #[.int .i64 a,.int .i64 b] 53)) (.slice (some ⟨W.heap.size,0,none⟩) 1 1) [(a,b)]:=
 RR.arg (base:=W.heap.size) (World.ownsRow_lit W #[.int .i64 a,.int .i64 b] 1 lz9 (by unfold maxLen;omega) rfl)
theorem aM9{C L:List (Int×Int)}{a b:Int}(h:IsC C (fun c=>In L c/\In [(a,b)] c)):∀ (i:Nat) (r:Int×Int),C[i]?=some r->(a<=r.1/\r.1<=b)/\(a<=r.2/\r.2<=b):=fun i r hr=>by
 have hm:=i5 hr
 have hs:=h.cls.some r hm
 have p:=((h.mem r.1).1 ⟨r,hm,s6 _,hs⟩).2
 have q:=((h.mem r.2).1 ⟨r,hm,hs,s6 _⟩).2
 rw [dN] at p q
 exact⟨p,q⟩
def wW(w w4:World)(k:Nat):Prop:=w.heap.size<=k/\k<w4.heap.size
theorem jI{w w':World}{k:Nat}(h:w'.heap[k]?=w.heap[k]?)(o:Nat):w'.cell? ⟨k,o,none⟩=w.cell? ⟨k,o,none⟩:=by unfold World.cell?;simp only [h]
structure FW(w w4 W1 wr:World)(ov:Value)(O:List (Int×Int)):Prop where
 own:RR w.heap.size wr ov O
 fr:Fr (wW w w4) W1 wr
 at':∀ g,ov.ownBlock=some g->wW w w4 g\/W1.heap.size<=g
theorem FW.drew{w w4 W1 wr:World}{ov:Value}{O:List (Int×Int)}(h:FW w w4 W1 wr ov O):FW w w4 W1 wr.drew ov O:=⟨World.ownsRow.drew h.own,h.fr.drew,h.at'⟩
theorem FW.app{w w4 W1 wr w6:World}{q:Option Addr}{co:Nat}{L:List (Int×Int)}{o:Obj}{g6 cap6:Nat}{a b:Int}(h:FW w w4 W1 wr (.slice q L.length co) L)(hg:(wr.alloc o).grownBy w6 (Value.slice q L.length co).ownBlock)
  (ho:w6.ownsRow w.heap.size 53 2 (.slice (some ⟨g6,0,none⟩) (L.length+1) cap6) (L.length+1) (aH L++[.int .i64 a,.int .i64 b]))
  (hb:(Value.slice (some ⟨g6,0,none⟩) (L.length+1) cap6).ownBlock=(Value.slice q L.length co).ownBlock\/(Value.slice (some ⟨g6,0,none⟩) (L.length+1) cap6).ownBlock=some (wr.alloc o).heap.size):FW w w4 W1 w6 (.slice (some ⟨g6,0,none⟩) (L.length+1) cap6) (L++[(a,b)]):=by
 refine⟨lO ho,?_,fun g e=>?_⟩
 ·refine⟨hg.os.trans h.fr.os,hg.tape.trans h.fr.tape,hg.output.trans h.fr.output,j4 h.fr.size (j4 (by simp) hg.size),fun k hk hs=>?_⟩
  have hkr:k<wr.heap.size:=j2 hk h.fr.size
  refine(hg.block k (by simp;omega) (fun e=>?_)).trans ((Below.heap_alloc _ _ _ hkr).trans (h.fr.block k hk hs))
  rcases h.at' k e.symm with q | q
  ·exact hs q
  ·omega
 ·rcases hb with hb | hb
  ·rw [hb] at e;exact h.at' g e
  ·rw [hb] at e
   cases e
   exact .inr (j4 h.fr.size (by simp))
theorem oV{W:World}{q:Option Addr}{n k:Nat}{L:List (Int×Int)}(h:ArgR W (.slice q n k) L){lo:Nat}(hlo:∀ g,(Value.slice q n k).ownBlock=some g->lo<=g):∀ (i:Nat) (r:Int×Int),L[i]?=some r->∃ g off,q=some ⟨g,off,none⟩/\lo<=g/\g<W.heap.size/\W.cell? ⟨g,off+i*2,none⟩=some (.int .i64 r.1)/\W.cell? ⟨g,off+i*2+1,none⟩=some (.int .i64 r.2):=fun i r hi=>by
 obtain⟨q',c',e,-,-,hc⟩:=h.slice
 cases e
 obtain⟨g,off,rfl,h1,h2,h3⟩:=hc i r hi
 rw [_root_.Go.Proofs.YtlamifbjklpdbaaGreat.u0] at h2 h3
 exact⟨g,off,rfl,hlo g rfl,h1,h2,h3⟩
theorem aH4{w:World}{v:Value}{L:List (Int×Int)}(h:ArgR w v L)(hF:Fit L)(hl:L.length<=1048580) :
  Calls Tryz.prog 36 #[v] w (oD w (jO L) (3*L.length)):=by
 obtain⟨t0,ti,hz0,hz1,hz2⟩:=aW cA
 have H:Hid (ArgR w v L/\Fit L):=⟨h,hF⟩
 clear h hF
 go_enter Tryz.func36,Tryz.ntmps36
 go_upto_region 5 with first
  |(go_at_call 58;refine(iN H.out.1 H.out.2 (by omega)).mono ?_;rintro e w4 ⟨v4,C,rfl,h1,h2,h3,h4⟩;obtain⟨qc,cc,rfl⟩:=h1.shape;have X4:Hid (RR w.heap.size w4 (.slice qc C.length cc) C/\IsC C (In L)/\C.length<=L.length/\Below w.heap.size w w4):=⟨h1,h2,h3,h4⟩;clear h1 h2 h3 h4)
  |(go_at_call 59;have hx:=X5.out;clear hx;have hih:=tC (((H.out.1.kept X4.out.2.2.2).kept X5.out.2.2.2).kept (lD w5 (.cells #[.int .i64 97,.int .i64 122] 53))) (uW w5 97 122) H.out.2 (fS (by omega)) (by omega) (by simp) (by simp;omega);(with_reducible refine hih.mono ?_);clear hih;rintro e w6 ⟨v6,S,rfl,h1,h2,h3,h4⟩;obtain⟨qs,cs,rfl⟩:=h1.shape;have X6:Hid (RR w5.heap.size w6 (.slice qs S.length cs) S/\IsC S (fun c=>In L c/\In [(97,122)] c)/\S.length<=L.length/\Below w5.heap.size w5 w6):=⟨h1.mono (by simp),h2,(by simpa using h3),(lD w5 _).trans (h4.mono (by simp))⟩;clear h1 h2 h3 h4)
  |(go_at_call 59;have hih:=tC ((H.out.1.kept X4.out.2.2.2).kept (lD w4 (.cells #[.int .i64 65,.int .i64 90] 53))) (uW w4 65 90) H.out.2 (fS (by omega)) (by omega) (by simp) (by simp;omega);(with_reducible refine hih.mono ?_);clear hih;rintro e w5 ⟨v5,G,rfl,h1,h2,h3,h4⟩;obtain⟨qg,cg,rfl⟩:=h1.shape;have X5:Hid (RR w4.heap.size w5 (.slice qg G.length cg) G/\IsC G (fun c=>In L c/\In [(65,90)] c)/\G.length<=L.length/\Below w4.heap.size w4 w5):=⟨h1.mono (by simp),h2,(by simpa using h3),(lD w4 _).trans (h4.mono (by simp))⟩;clear h1 h2 h3 h4)
 rename World=>W1
 have BTW:Hid (Below w.heap.size w W1):=aF (aF X4.out.2.2.2 X5.out.2.2.2 lz9) X6.out.2.2.2 lz9
 have B4W:Hid (Below w4.heap.size w4 W1):=aF X5.out.2.2.2 X6.out.2.2.2 lz9
 have HGG:Hid _:=oV (X5.out.1.kept X6.out.2.2.2).arg (lo:=w4.heap.size) (fun g e=>(aG X5.out.1 e).1)
 have HGS:Hid _:=oV X6.out.1.arg (lo:=w4.heap.size) (fun g e=>j4 X5.out.2.2.2.size (aG X6.out.1 e).1)
 have BDG:Hid _:=aM9 X5.out.2.1
 have BDS:Hid _:=aM9 X6.out.2.1
 have hcl:=X4.out.2.2.1
 have hgl:=X5.out.2.2.1
 have hsl:=X6.out.2.2.1
 have ST:Hid (FW w w4 W1 W1 (.slice qc C.length cc) C):=⟨X4.out.1.kept B4W.out,Fr.refl _ _,fun g e=>.inl ⟨(aG X4.out.1 e).1,(aG X4.out.1 e).2.1⟩⟩
 go_wp2
 go_loopw [3,6] (fun ov i wr=>∃ j:Nat,j<=G.length/\i=.int .i64 j/\FW w w4 W1 wr ov (C++shL G j 32)) (fun _ i _=>G.length-(intOf i).toNat)
 case atStart=>exact⟨0,m7 _,rfl,by simpa [shL] using ST.out⟩
 case round=>
  obtain⟨j,hj,rfl,hW⟩:=hrel
  obtain⟨qo,co,e3⟩:=hW.own.shape
  subst e3
  by_cases hlt:j<G.length
  ·obtain⟨O,hO⟩:∃ O,C++shL G j 32=O:=⟨_,rfl⟩
   have EO:Hid (C++shL G j 32=O):=hO
   rw [hO] at hW ⊢
   have M0:Hid (FW w w4 W1 wr (.slice qo O.length co) O):=hW
   have hol:O.length+1<=8796093022208:=by rw [<- hO];simp [shL];omega
   clear hW hO
   obtain⟨r,er⟩:∃ r,G[j]?=some r:=⟨_,b7 hlt⟩
   obtain⟨gg,og,rfl,hg4,hgg,z1,z2⟩:=HGG.out j _ er
   have hbd:=BDG.out j r er
   have NXT:Hid (shL G (j+1) (32)=shL G j (32)++[(r.1+(32),r.2+(32))]):=qR er (32)
   obtain⟨lo,hi⟩:=r
   dsimp only at z1 z2 hbd NXT
   have wa:IntKind.wrap .i64 (lo+32)=lo+32:=by rw [IntKind.wrap_i64];omega
   have wb:IntKind.wrap .i64 (hi+32)=hi+32:=by rw [IntKind.wrap_i64];omega
   have j0:(0:Int)<=(j:Int):=by omega
   have j1:(j:Int)<(G.length:Int):=by omega
   have QC:Hid (∀ w',Fr (wW w w4) W1 w'->w'.cell? ⟨gg,og+j*2,none⟩=some (.int .i64 lo)/\w'.cell? ⟨gg,og+j*2+1,none⟩=some (.int .i64 hi)):=fun w' hf=>by
    have hbk:=hf.block gg hgg (fun q=>by have:=q.2;omega)
    exact⟨(jI hbk _).trans z1,(jI hbk _).trans z2⟩
   have MD:Hid (FW w w4 W1 wr.drew (.slice qo O.length co) O):=M0.out.drew
   have hw1:w.heap.size<=wr.heap.size:=j4 BTW.out.size M0.out.fr.size
   clear z1 z2 er
   go_wp2
   refine wp_region_held_drew (S:=fun w'=>Fr (wW w w4) W1 w') (by kernel_rfl) MD.out.fr (fun hHeld=>?_)
   refine wpAnyH_take (i:=0) (oi:=_) (v:=?_) rfl (by kernel_rfl) (by kernel_rfl) (by kernel_rfl) (fun _ _ _ h=>h) (Or.inl ⟨by rfl,?_⟩) (by assumption) ?_
   rotate_left
   ·intro wz hSw;obtain⟨q1,q2⟩:=QC.out wz hSw;clear hSw;go_simp;try with_reducible rfl
   dsimp only [Act.put,i6,g8,g9]
   simp only [f8,i4,i8]
   refine wpAnyH_take (i:=1) (oi:=_) (v:=?_) rfl (by kernel_rfl) (by kernel_rfl) (by kernel_rfl) (fun _ _ _ h=>h) (Or.inl ⟨by rfl,?_⟩) (by assumption) ?_
   rotate_left
   ·intro wz hSw;obtain⟨q1,q2⟩:=QC.out wz hSw;clear hSw;go_simp;try with_reducible rfl
   dsimp only [Act.put,i6,g8,g9]
   simp only [f8,i4,i8]
   refine wpAnyH_take (i:=2) (oi:=_) (v:=?_) rfl (by kernel_rfl) (by kernel_rfl) (by kernel_rfl) (fun _ _ _ h=>h) (Or.inl ⟨by rfl,?_⟩) (by assumption) ?_
   rotate_left
   ·intro wz hSw;obtain⟨q1,q2⟩:=QC.out wz hSw;clear hSw;go_simp;try with_reducible rfl
   dsimp only [Act.put,i6,g8,g9]
   simp only [f8,i4,i8]
   refine wpAnyH_take (i:=3) (oi:=_) (v:=?_) rfl (by kernel_rfl) (by kernel_rfl) (by kernel_rfl) (fun _ _ _ h=>h) (Or.inl ⟨by rfl,?_⟩) (by assumption) ?_
   rotate_left
   ·intro wz hSw;obtain⟨q1,q2⟩:=QC.out wz hSw;clear hSw;go_simp;try with_reducible rfl
   dsimp only [Act.put,i6,g8,g9]
   simp only [f8,i4,i8]
   refine wpAnyH_take (i:=4) (oi:=_) (v:=?_) rfl (by kernel_rfl) (by kernel_rfl) (by kernel_rfl) (fun _ _ _ h=>h) (Or.inl ⟨by rfl,?_⟩) (by assumption) ?_
   rotate_left
   ·intro wz hSw;obtain⟨q1,q2⟩:=QC.out wz hSw;clear hSw;go_simp;try with_reducible rfl
   dsimp only [Act.put,i6,g8,g9]
   simp only [f8,i4,i8]
   refine wpAnyH_take (i:=5) (oi:=_) (v:=?_) rfl (by kernel_rfl) (by kernel_rfl) (by kernel_rfl) (fun _ _ _ h=>h) (Or.inl ⟨by rfl,?_⟩) (by assumption) ?_
   rotate_left
   ·intro wz hSw;obtain⟨q1,q2⟩:=QC.out wz hSw;clear hSw;go_simp;try with_reducible rfl
   dsimp only [Act.put,i6,g8,g9]
   simp only [f8,i4,i8]
   refine wpAnyH_take (i:=6) (oi:=_) (v:=?_) rfl (by kernel_rfl) (by kernel_rfl) (by kernel_rfl) (fun _ _ _ h=>h) (Or.inl ⟨by rfl,?_⟩) (by assumption) ?_
   rotate_left
   ·intro wz hSw;obtain⟨q1,q2⟩:=QC.out wz hSw;clear hSw;go_simp;try with_reducible rfl
   dsimp only [Act.put,i6,g8,g9]
   simp only [f8,i4,i8]
   refine wpAnyH_take (i:=7) (oi:=_) (v:=?_) rfl (by kernel_rfl) (by kernel_rfl) (by kernel_rfl) (fun _ _ _ h=>h) (Or.inl ⟨by rfl,?_⟩) (by assumption) ?_
   rotate_left
   ·intro wz hSw;obtain⟨q1,q2⟩:=QC.out wz hSw;clear hSw;go_simp;try with_reducible rfl
   dsimp only [Act.put,i6,g8,g9]
   simp only [f8,i4,i8]
   refine wpAnyH_take (i:=8) (oi:=_) (v:=?_) rfl (by kernel_rfl) (by kernel_rfl) (by kernel_rfl) (fun _ _ _ h=>h) (Or.inl ⟨by rfl,?_⟩) (by assumption) ?_
   rotate_left
   ·intro wz hSw;obtain⟨q1,q2⟩:=QC.out wz hSw;clear hSw;go_simp;try with_reducible rfl
   dsimp only [Act.put,i6,g8,g9]
   simp only [f8,i4,i8]
   refine wpAnyH_take (i:=9) (oi:=_) (v:=?_) rfl (by kernel_rfl) (by kernel_rfl) (by kernel_rfl) (fun _ _ _ h=>h) (Or.inl ⟨by rfl,?_⟩) (by assumption) ?_
   rotate_left
   ·intro wz hSw;obtain⟨q1,q2⟩:=QC.out wz hSw;clear hSw;go_simp;try with_reducible rfl
   dsimp only [Act.put,i6,g8,g9]
   simp only [f8,i4,i8]
   refine wpAnyH_take (i:=10) (oi:=_) (v:=?_) rfl (by kernel_rfl) (by kernel_rfl) (by kernel_rfl) (fun _ _ _ h=>h) (Or.inl ⟨by rfl,?_⟩) (by assumption) ?_
   rotate_left
   ·intro wz hSw;obtain⟨q1,q2⟩:=QC.out wz hSw;clear hSw;go_simp;try with_reducible rfl
   dsimp only [Act.put,i6,g8,g9]
   simp only [f8,i4,i8]
   refine wpAnyH_take (i:=11) (oi:=_) (v:=?_) rfl (by kernel_rfl) (by kernel_rfl) (by kernel_rfl) (fun _ _ _ h=>h) (Or.inl ⟨by rfl,?_⟩) (by assumption) ?_
   rotate_left
   ·intro wz hSw;obtain⟨q1,q2⟩:=QC.out wz hSw;clear hSw;go_simp;try with_reducible rfl
   dsimp only [Act.put,i6,g8,g9]
   simp only [f8,i4,i8]
   refine wpAnyH_take (i:=12) (oi:=_) (v:=?_) rfl (by kernel_rfl) (by kernel_rfl) (by kernel_rfl) (fun _ _ _ h=>h) (Or.inl ⟨by rfl,?_⟩) (by assumption) ?_
   rotate_left
   ·intro wz hSw;obtain⟨q1,q2⟩:=QC.out wz hSw;clear hSw;go_simp;try with_reducible rfl
   dsimp only [Act.put,i6,g8,g9]
   simp only [f8,i4,i8]
   refine wpAnyH_take (i:=13) (oi:=_) (v:=?_) rfl (by kernel_rfl) (by kernel_rfl) (by kernel_rfl) (fun _ _ _ h=>h) (Or.inl ⟨by rfl,?_⟩) (by assumption) ?_
   rotate_left
   ·intro wz hSw;obtain⟨q1,q2⟩:=QC.out wz hSw;clear hSw;go_simp;try with_reducible rfl
   dsimp only [Act.put,i6,g8,g9]
   simp only [f8,i4,i8]
   refine wpAnyH_ready (rs:=[14]) (by kernel_rfl) (by simp) ?_
   refine AllReadyH.cons rfl (fun K hK=>?_) AllReadyH.nil
   go_simp
   refine hK.out _ _ (MD.out.fr.alloc _) (fun hHeld2=>?_)
   clear hK K
   refine wpAnyH_ready (rs:=[15]) (by kernel_rfl) (by simp) ?_
   refine AllReadyH.cons rfl (fun K hK=>?_) AllReadyH.nil
   refine fH rfl _ _ 22 rfl w.heap.size 53 t0 (.agg #[.int .i64 0,.int .i64 0]) 2 16 aU ti hz0 hz1 hz2 rfl (by decide) (.slice qo O.length co) O.length (aH O) (by simp [Act.eval]) (o8 MD.out.own (.cells #[.int .i64 (lo+32),.int .i64 (hi+32)] 53)) ⟨wr.heap.size,0,none⟩ 1 1 [.int .i64 (lo+32),.int .i64 (hi+32)] (by simp [Act.eval]) rfl (iF _ _ _ _) (by simp [Value.oneCell']) (by unfold maxLen;omega) (by omega) (by simp;omega) ?_
   intro v' w6' hown' hgrow hblk
   obtain⟨g6,cap6,rfl⟩:=aN hown' (_root_.Go.Proofs.YtlamifbjklpdbaaGreat.u4 _)
   have M6:Hid (FW w w4 W1 w6' (.slice (some ⟨g6,0,none⟩) (O.length+1) cap6) (O++[(lo+32,hi+32)])):=MD.out.app hgrow hown' hblk
   clear hown' hgrow hblk
   refine hK.out _ _ M6.out.fr (fun hHeld3=>?_)
   clear hK K
   refine wpAnyH_ready (rs:=[16]) (by kernel_rfl) (by simp) ?_
   refine AllReadyH.cons rfl (fun K hK=>?_) AllReadyH.nil
   go_simp
   refine hK.out _ _ M6.out.fr (fun hHeld4=>?_)
   clear hK K
   refine wpAnyH_done (by kernel_rfl) ?_ _
   go_wp2
   go_roundw
   case rel=>exact⟨j+1,by omega,by go_num,by rw [NXT.out,<- j7,EO.out];exact M6.out⟩
   case measure=>simp [intOf];omega
  ·have j1:¬ (j:Int)<(G.length:Int):=by omega
   have EJ:Hid (shL G j 32=shL G G.length 32):=aB (by unfold shL;rw [j5 (by omega),aAB])
   rw [EJ.out] at hW ⊢
   obtain⟨C2,hC2⟩:∃ C2,C++shL G G.length 32=C2:=⟨_,rfl⟩
   have EC:Hid (C++shL G G.length 32=C2):=hC2
   have hc2:C2.length<=2*L.length:=by rw [<- hC2];simp [shL];omega
   rw [hC2] at hW ⊢
   have ST2:Hid (FW w w4 W1 wr (.slice qo C2.length co) C2):=hW
   clear hW hC2
   rename World=>W5
   go_wp2
   go_loopw [3,7] (fun ov i wr=>∃ j:Nat,j<=S.length/\i=.int .i64 j/\FW w w4 W1 wr ov (C2++shL S j (-32))) (fun _ i _=>S.length-(intOf i).toNat)
   case atStart=>exact⟨0,m7 _,rfl,by simpa [shL] using ST2.out⟩
   case round=>
    clear ST2
    obtain⟨j,hj,rfl,hW⟩:=hrel
    obtain⟨qo,co,e3⟩:=hW.own.shape
    subst e3
    by_cases hlt:j<S.length
    ·obtain⟨O,hO⟩:∃ O,C2++shL S j (-32)=O:=⟨_,rfl⟩
     have EO:Hid (C2++shL S j (-32)=O):=hO
     rw [hO] at hW ⊢
     have M0:Hid (FW w w4 W1 wr (.slice qo O.length co) O):=hW
     have hol:O.length+1<=8796093022208:=by rw [<- hO];simp [shL];omega
     clear hW hO
     obtain⟨r,er⟩:∃ r,S[j]?=some r:=⟨_,b7 hlt⟩
     obtain⟨gg,og,rfl,hg4,hgg,z1,z2⟩:=HGS.out j _ er
     have hbd:=BDS.out j r er
     have NXT:Hid (shL S (j+1) (-32)=shL S j (-32)++[(r.1+(-32),r.2+(-32))]):=qR er (-32)
     obtain⟨lo,hi⟩:=r
     dsimp only at z1 z2 hbd NXT
     have wa:IntKind.wrap .i64 (lo-32)=lo-32:=by rw [IntKind.wrap_i64];omega
     have wb:IntKind.wrap .i64 (hi-32)=hi-32:=by rw [IntKind.wrap_i64];omega
     have j0:(0:Int)<=(j:Int):=by omega
     have j1:(j:Int)<(S.length:Int):=by omega
     have QC:Hid (∀ w',Fr (wW w w4) W1 w'->w'.cell? ⟨gg,og+j*2,none⟩=some (.int .i64 lo)/\w'.cell? ⟨gg,og+j*2+1,none⟩=some (.int .i64 hi)):=fun w' hf=>by
      have hbk:=hf.block gg hgg (fun q=>by have:=q.2;omega)
      exact⟨(jI hbk _).trans z1,(jI hbk _).trans z2⟩
     have MD:Hid (FW w w4 W1 wr.drew (.slice qo O.length co) O):=M0.out.drew
     have hw1:w.heap.size<=wr.heap.size:=j4 BTW.out.size M0.out.fr.size
     clear z1 z2 er
     go_wp2
     refine wp_region_held_drew (S:=fun w'=>Fr (wW w w4) W1 w') (by kernel_rfl) MD.out.fr (fun hHeld=>?_)
     refine wpAnyH_take (i:=0) (oi:=_) (v:=?_) rfl (by kernel_rfl) (by kernel_rfl) (by kernel_rfl) (fun _ _ _ h=>h) (Or.inl ⟨by rfl,?_⟩) (by assumption) ?_
     rotate_left
     ·intro wz hSw;obtain⟨q1,q2⟩:=QC.out wz hSw;clear hSw;go_simp;try with_reducible rfl
     dsimp only [Act.put,i6,g8,g9]
     simp only [f8,i4,i8]
     refine wpAnyH_take (i:=1) (oi:=_) (v:=?_) rfl (by kernel_rfl) (by kernel_rfl) (by kernel_rfl) (fun _ _ _ h=>h) (Or.inl ⟨by rfl,?_⟩) (by assumption) ?_
     rotate_left
     ·intro wz hSw;obtain⟨q1,q2⟩:=QC.out wz hSw;clear hSw;go_simp;try with_reducible rfl
     dsimp only [Act.put,i6,g8,g9]
     simp only [f8,i4,i8]
     refine wpAnyH_take (i:=2) (oi:=_) (v:=?_) rfl (by kernel_rfl) (by kernel_rfl) (by kernel_rfl) (fun _ _ _ h=>h) (Or.inl ⟨by rfl,?_⟩) (by assumption) ?_
     rotate_left
     ·intro wz hSw;obtain⟨q1,q2⟩:=QC.out wz hSw;clear hSw;go_simp;try with_reducible rfl
     dsimp only [Act.put,i6,g8,g9]
     simp only [f8,i4,i8]
     refine wpAnyH_take (i:=3) (oi:=_) (v:=?_) rfl (by kernel_rfl) (by kernel_rfl) (by kernel_rfl) (fun _ _ _ h=>h) (Or.inl ⟨by rfl,?_⟩) (by assumption) ?_
     rotate_left
     ·intro wz hSw;obtain⟨q1,q2⟩:=QC.out wz hSw;clear hSw;go_simp;try with_reducible rfl
     dsimp only [Act.put,i6,g8,g9]
     simp only [f8,i4,i8]
     refine wpAnyH_take (i:=4) (oi:=_) (v:=?_) rfl (by kernel_rfl) (by kernel_rfl) (by kernel_rfl) (fun _ _ _ h=>h) (Or.inl ⟨by rfl,?_⟩) (by assumption) ?_
     rotate_left
     ·intro wz hSw;obtain⟨q1,q2⟩:=QC.out wz hSw;clear hSw;go_simp;try with_reducible rfl
     dsimp only [Act.put,i6,g8,g9]
     simp only [f8,i4,i8]
     refine wpAnyH_take (i:=5) (oi:=_) (v:=?_) rfl (by kernel_rfl) (by kernel_rfl) (by kernel_rfl) (fun _ _ _ h=>h) (Or.inl ⟨by rfl,?_⟩) (by assumption) ?_
     rotate_left
     ·intro wz hSw;obtain⟨q1,q2⟩:=QC.out wz hSw;clear hSw;go_simp;try with_reducible rfl
     dsimp only [Act.put,i6,g8,g9]
     simp only [f8,i4,i8]
     refine wpAnyH_take (i:=6) (oi:=_) (v:=?_) rfl (by kernel_rfl) (by kernel_rfl) (by kernel_rfl) (fun _ _ _ h=>h) (Or.inl ⟨by rfl,?_⟩) (by assumption) ?_
     rotate_left
     ·intro wz hSw;obtain⟨q1,q2⟩:=QC.out wz hSw;clear hSw;go_simp;try with_reducible rfl
     dsimp only [Act.put,i6,g8,g9]
     simp only [f8,i4,i8]
     refine wpAnyH_take (i:=7) (oi:=_) (v:=?_) rfl (by kernel_rfl) (by kernel_rfl) (by kernel_rfl) (fun _ _ _ h=>h) (Or.inl ⟨by rfl,?_⟩) (by assumption) ?_
     rotate_left
     ·intro wz hSw;obtain⟨q1,q2⟩:=QC.out wz hSw;clear hSw;go_simp;try with_reducible rfl
     dsimp only [Act.put,i6,g8,g9]
     simp only [f8,i4,i8]
     refine wpAnyH_take (i:=8) (oi:=_) (v:=?_) rfl (by kernel_rfl) (by kernel_rfl) (by kernel_rfl) (fun _ _ _ h=>h) (Or.inl ⟨by rfl,?_⟩) (by assumption) ?_
     rotate_left
     ·intro wz hSw;obtain⟨q1,q2⟩:=QC.out wz hSw;clear hSw;go_simp;try with_reducible rfl
     dsimp only [Act.put,i6,g8,g9]
     simp only [f8,i4,i8]
     refine wpAnyH_take (i:=9) (oi:=_) (v:=?_) rfl (by kernel_rfl) (by kernel_rfl) (by kernel_rfl) (fun _ _ _ h=>h) (Or.inl ⟨by rfl,?_⟩) (by assumption) ?_
     rotate_left
     ·intro wz hSw;obtain⟨q1,q2⟩:=QC.out wz hSw;clear hSw;go_simp;try with_reducible rfl
     dsimp only [Act.put,i6,g8,g9]
     simp only [f8,i4,i8]
     refine wpAnyH_take (i:=10) (oi:=_) (v:=?_) rfl (by kernel_rfl) (by kernel_rfl) (by kernel_rfl) (fun _ _ _ h=>h) (Or.inl ⟨by rfl,?_⟩) (by assumption) ?_
     rotate_left
     ·intro wz hSw;obtain⟨q1,q2⟩:=QC.out wz hSw;clear hSw;go_simp;try with_reducible rfl
     dsimp only [Act.put,i6,g8,g9]
     simp only [f8,i4,i8]
     refine wpAnyH_take (i:=11) (oi:=_) (v:=?_) rfl (by kernel_rfl) (by kernel_rfl) (by kernel_rfl) (fun _ _ _ h=>h) (Or.inl ⟨by rfl,?_⟩) (by assumption) ?_
     rotate_left
     ·intro wz hSw;obtain⟨q1,q2⟩:=QC.out wz hSw;clear hSw;go_simp;try with_reducible rfl
     dsimp only [Act.put,i6,g8,g9]
     simp only [f8,i4,i8]
     refine wpAnyH_take (i:=12) (oi:=_) (v:=?_) rfl (by kernel_rfl) (by kernel_rfl) (by kernel_rfl) (fun _ _ _ h=>h) (Or.inl ⟨by rfl,?_⟩) (by assumption) ?_
     rotate_left
     ·intro wz hSw;obtain⟨q1,q2⟩:=QC.out wz hSw;clear hSw;go_simp;try with_reducible rfl
     dsimp only [Act.put,i6,g8,g9]
     simp only [f8,i4,i8]
     refine wpAnyH_take (i:=13) (oi:=_) (v:=?_) rfl (by kernel_rfl) (by kernel_rfl) (by kernel_rfl) (fun _ _ _ h=>h) (Or.inl ⟨by rfl,?_⟩) (by assumption) ?_
     rotate_left
     ·intro wz hSw;obtain⟨q1,q2⟩:=QC.out wz hSw;clear hSw;go_simp;try with_reducible rfl
     dsimp only [Act.put,i6,g8,g9]
     simp only [f8,i4,i8]
     refine wpAnyH_ready (rs:=[14]) (by kernel_rfl) (by simp) ?_
     refine AllReadyH.cons rfl (fun K hK=>?_) AllReadyH.nil
     go_simp
     refine hK.out _ _ (MD.out.fr.alloc _) (fun hHeld2=>?_)
     clear hK K
     refine wpAnyH_ready (rs:=[15]) (by kernel_rfl) (by simp) ?_
     refine AllReadyH.cons rfl (fun K hK=>?_) AllReadyH.nil
     refine fH rfl _ _ 22 rfl w.heap.size 53 t0 (.agg #[.int .i64 0,.int .i64 0]) 2 16 aU ti hz0 hz1 hz2 rfl (by decide) (.slice qo O.length co) O.length (aH O) (by simp [Act.eval]) (o8 MD.out.own (.cells #[.int .i64 (lo-32),.int .i64 (hi-32)] 53)) ⟨wr.heap.size,0,none⟩ 1 1 [.int .i64 (lo-32),.int .i64 (hi-32)] (by simp [Act.eval]) rfl (iF _ _ _ _) (by simp [Value.oneCell']) (by unfold maxLen;omega) (by omega) (by simp;omega) ?_
     intro v' w6' hown' hgrow hblk
     obtain⟨g6,cap6,rfl⟩:=aN hown' (_root_.Go.Proofs.YtlamifbjklpdbaaGreat.u4 _)
     have M6:Hid (FW w w4 W1 w6' (.slice (some ⟨g6,0,none⟩) (O.length+1) cap6) (O++[(lo-32,hi-32)])):=MD.out.app hgrow hown' hblk
     clear hown' hgrow hblk
     refine hK.out _ _ M6.out.fr (fun hHeld3=>?_)
     clear hK K
     refine wpAnyH_ready (rs:=[16]) (by kernel_rfl) (by simp) ?_
     refine AllReadyH.cons rfl (fun K hK=>?_) AllReadyH.nil
     go_simp
     refine hK.out _ _ M6.out.fr (fun hHeld4=>?_)
     clear hK K
     refine wpAnyH_done (by kernel_rfl) ?_ _
     go_wp2
     go_roundw
     case rel=>exact⟨j+1,by omega,by go_num,by rw [NXT.out,<- j7,EO.out];exact M6.out⟩
     case measure=>simp [intOf];omega
    ·have j1:¬ (j:Int)<(S.length:Int):=by omega
     have EJ:Hid (shL S j (-32)=S.map fun r:Int×Int=>(r.1+-32,r.2+-32)):=aB (by unfold shL;rw [j5 (by omega)])
     have EG:Hid (C2=C++G.map fun r:Int×Int=>(r.1+32,r.2+32)):=aB (by rw [<- EC.out];unfold shL;rw [aAB])
     rw [EJ.out] at hW ⊢
     have MZ:Hid _:=hW
     have FZ:Hid (Fit (C2++S.map fun r:Int×Int=>(r.1+-32,r.2+-32))):=aB (by
      rw [EG.out]
      refine cM (cM X4.out.2.1.fit fun r hr=>?_) fun r hr=>?_
      ·obtain⟨x,hx,e⟩:=m9.1 hr
       subst e
       obtain⟨i,hi⟩:=List.getElem?_of_mem hx
       have:=BDG.out i x hi
       simp only
       omega
      ·obtain⟨x,hx,e⟩:=m9.1 hr
       subst e
       obtain⟨i,hi⟩:=List.getElem?_of_mem hx
       have:=BDS.out i x hi
       simp only
       omega)
     have LZ:Hid ((C2++S.map fun r:Int×Int=>(r.1+-32,r.2+-32)).length<=3*L.length):=aB (by simp;omega)
     have IZ:Hid (∀ c,In (C2++S.map fun r:Int×Int=>(r.1+-32,r.2+-32)) c↔jO L c):=fun c=>by
      rw [EG.out,bZ,bZ,hQ,hQ,X4.out.2.1.mem,X5.out.2.1.mem,X6.out.2.1.mem,dN,dN]
      unfold jO
      rw [show c - -32=c+32 by omega,or_assoc]
     clear hW
     generalize (C2++S.map fun r:Int×Int=>(r.1+-32,r.2+-32))=Z at *
     go_wp2_with (go_at_call 58;refine(iN MZ.out.own.arg FZ.out (by have:=LZ.out;omega)).mono ?_;rintro e w7 ⟨v7,D,rfl,h1,h2,h3,h4⟩;have X7:Hid (RR wr.heap.size w7 v7 D/\IsC D (In Z)/\D.length<=Z.length/\Below wr.heap.size wr w7):=⟨h1,h2,h3,h4⟩;clear h1 h2 h3 h4)
     go_ret
     have BZ:Below w.heap.size w wr:=aX BTW.out MZ.out.fr lz9 (fun k hk=>hk.1)
     exact⟨_,_,rfl,X7.out.1.mono BZ.size,X7.out.2.1.to IZ.out,j4 X7.out.2.2.1 LZ.out,aF BZ X7.out.2.2.2 lz9⟩
theorem aG2{c f:Bool}{L C:List (Int×Int)}(hC:IsC C (jO L)):jR c f L↔(IsC L (fun x=>In L x/\dQ c x)/\(f=true->L=C)):=by
 constructor
 ·rintro ⟨h1,h2⟩
  refine⟨h1,fun hf=>?_⟩
  have h3:IsC L (jO L):=⟨h1.cls,h1.fit,h2 hf⟩
  exact h3.one hC (fun _=>Iff.rfl)
 ·rintro ⟨h1,h2⟩
  refine⟨h1,fun hf x=>?_⟩
  have e:=h2 hf
  rw [<- e] at hC
  exact hC.mem x
theorem aF4{c f:Bool}{t:Tr}{k:Int}(hk:t.f.k=k):eM c f t↔(if k=1\/k=3\/k=4 then t.f.n=0/\t.f.mn=0/\t.f.mx=0/\t.f.rs.length=0/\t.ks.length=0
 else if k=2 then jR c f t.f.rs/\t.f.n=0/\t.f.mn=0/\t.f.mx=0/\t.ks.length=0
 else if k=5\/k=6 then 1<t.ks.length/\t.f.n=0/\t.f.mn=0/\t.f.mx=0/\t.f.rs.length=0
 else if k=7 then t.ks.length=1/\t.f.mn=0/\t.f.mx=0/\t.f.rs.length=0
 else if k=8 then (1<=t.f.n/\t.f.n<=9)/\t.f.mn=0/\t.f.mx=0/\t.f.rs.length=0/\t.ks.length=0
 else if k=9 then eW t.f.mn t.f.mx=true/\t.ks.length=1/\t.f.n=0/\t.f.rs.length=0
 else False):=by
 unfold eM
 rw [hk]
def FormedP(c f:Bool)(p:Way)(t:Tr)(w:World)(e:Ending)(w':World):Prop:=∃ b:Bool,e=.returned (.bool b)/\(b=true↔bE c f p t)/\Below w.heap.size w w'
theorem FormedP.mk{c f:Bool}{p:Way}{t:Tr}{w w':World}{e:Ending}(b:Bool)(h1:e=.returned (.bool b))(h2:b=true↔bE c f p t)(h3:Below w.heap.size w w'):FormedP c f p t w e w':=⟨b,h1,h2,h3⟩
theorem aH3(p:Way)(t:Tr)(o:Nat)(c f:Bool){w:World}(hn:NB w t)(hrl:t.f.rs.length<=1048580) :
  Calls Tryz.prog 20 #[.agg #[.int .i64 t.f.k,.int .i64 t.f.n,.int .i64 t.f.mn,.int .i64 t.f.mx,.slice t.f.rq t.f.rs.length t.f.rc,.slice t.f.kq t.f.kl t.f.kc,.int .i64 ((p.length:Int)+1),.int .i64 (arP p),.bool (fiP p),.bool (laP p),.bool (brP p),.int .i64 (o:Int)],.agg #[.bool c,.bool f]] w fun e w'=>FormedP c f p t w e w':=by
 have HNA:=aB hn
 have hkl:=hn.kl
 have HKL:=aB hkl
 obtain⟨qk,ck,ek,hkm,-,-⟩:=hn.k.slice
 have hkm':t.f.kl<=9223372036854775807:=by rw [hkl];exact hkm
 have HF:=aB hn.fit
 have B0:Hid (Below w.heap.size w ((w.alloc (.cells #[.int .i64 t.f.k,.int .i64 t.f.n,.int .i64 t.f.mn,.int .i64 t.f.mx,.slice t.f.rq t.f.rs.length t.f.rc,.slice t.f.kq t.f.kl t.f.kc,.int .i64 ((p.length:Int)+1),.int .i64 (arP p),.bool (fiP p),.bool (laP p),.bool (brP p),.int .i64 (o:Int)] 56)).alloc (.cells #[.bool c,.bool f] 27))):=(bz9).alloc (by simp) _
 have P0:Hid (((w.alloc (.cells #[.int .i64 t.f.k,.int .i64 t.f.n,.int .i64 t.f.mn,.int .i64 t.f.mx,.slice t.f.rq t.f.rs.length t.f.rc,.slice t.f.kq t.f.kl t.f.kc,.int .i64 ((p.length:Int)+1),.int .i64 (arP p),.bool (fiP p),.bool (laP p),.bool (brP p),.int .i64 (o:Int)] 56)).alloc (.cells #[.bool c,.bool f] 27)).heap[w.heap.size]?=some (.cells #[.int .i64 t.f.k,.int .i64 t.f.n,.int .i64 t.f.mn,.int .i64 t.f.mx,.slice t.f.rq t.f.rs.length t.f.rc,.slice t.f.kq t.f.kl t.f.kc,.int .i64 ((p.length:Int)+1),.int .i64 (arP p),.bool (fiP p),.bool (laP p),.bool (brP p),.int .i64 (o:Int)] 56 (0,0))):=(Below.heap_alloc _ _ _ (by simp)).trans (aD w _)
 have M0:Hid (((w.alloc (.cells #[.int .i64 t.f.k,.int .i64 t.f.n,.int .i64 t.f.mn,.int .i64 t.f.mx,.slice t.f.rq t.f.rs.length t.f.rc,.slice t.f.kq t.f.kl t.f.kc,.int .i64 ((p.length:Int)+1),.int .i64 (arP p),.bool (fiP p),.bool (laP p),.bool (brP p),.int .i64 (o:Int)] 56)).alloc (.cells #[.bool c,.bool f] 27)).heap[w.heap.size+1]?=some (.cells #[.bool c,.bool f] 27 (0,0))):=(by
  have:=aD (w.alloc (.cells #[.int .i64 t.f.k,.int .i64 t.f.n,.int .i64 t.f.mn,.int .i64 t.f.mx,.slice t.f.rq t.f.rs.length t.f.rc,.slice t.f.kq t.f.kl t.f.kc,.int .i64 ((p.length:Int)+1),.int .i64 (arP p),.bool (fiP p),.bool (laP p),.bool (brP p),.int .i64 (o:Int)] 56)) (.cells #[.bool c,.bool f] 27)
  rwa [m8] at this)
 clear hn hkl ek hkm
 go_enter Tryz.func20,Tryz.ntmps20
 go_upto_region 1 with fail
 generalize ((w.alloc (.cells #[.int .i64 t.f.k,.int .i64 t.f.n,.int .i64 t.f.mn,.int .i64 t.f.mx,.slice t.f.rq t.f.rs.length t.f.rc,.slice t.f.kq t.f.kl t.f.kc,.int .i64 ((p.length:Int)+1),.int .i64 (arP p),.bool (fiP p),.bool (laP p),.bool (brP p),.int .i64 (o:Int)] 56)).alloc (.cells #[.bool c,.bool f] 27))=W0 at B0 P0 M0 ⊢
 generalize w.heap.size+1=bm at M0 ⊢
 have p0:W0.cell? ⟨w.heap.size,0,none⟩=some (.int .i64 t.f.k):=aA P0.out (i:=0) rfl
 have p1:W0.cell? ⟨w.heap.size,1,none⟩=some (.int .i64 t.f.n):=aA P0.out (i:=1) rfl
 have p2:W0.cell? ⟨w.heap.size,2,none⟩=some (.int .i64 t.f.mn):=aA P0.out (i:=2) rfl
 have p3:W0.cell? ⟨w.heap.size,3,none⟩=some (.int .i64 t.f.mx):=aA P0.out (i:=3) rfl
 have p4:W0.cell? ⟨w.heap.size,4,none⟩=some (.slice t.f.rq t.f.rs.length t.f.rc):=aA P0.out (i:=4) rfl
 have p5:W0.cell? ⟨w.heap.size,5,none⟩=some (.slice t.f.kq t.f.kl t.f.kc):=aA P0.out (i:=5) rfl
 have p6:W0.cell? ⟨w.heap.size,6,none⟩=some (.int .i64 ((p.length:Int)+1)):=aA P0.out (i:=6) rfl
 have p7:W0.cell? ⟨w.heap.size,7,none⟩=some (.int .i64 (arP p)):=aA P0.out (i:=7) rfl
 have p8:W0.cell? ⟨w.heap.size,8,none⟩=some (.bool (fiP p)):=aA P0.out (i:=8) rfl
 have p9:W0.cell? ⟨w.heap.size,9,none⟩=some (.bool (laP p)):=aA P0.out (i:=9) rfl
 have p10:W0.cell? ⟨w.heap.size,10,none⟩=some (.bool (brP p)):=aA P0.out (i:=10) rfl
 have p11:W0.cell? ⟨w.heap.size,11,none⟩=some (.int .i64 (o:Int)):=aA P0.out (i:=11) rfl
 go_upto_region 2 with fail
 have K1:Below W0.heap.size W0 (W0.alloc (.cells #[.int .i64 t.f.k,.int .i64 t.f.n,.int .i64 t.f.mn,.int .i64 t.f.mx,.slice t.f.rq t.f.rs.length t.f.rc,.slice t.f.kq t.f.kl t.f.kc] 25)):=bz9
 have N1:=aB (aD W0 (.cells #[.int .i64 t.f.k,.int .i64 t.f.n,.int .i64 t.f.mn,.int .i64 t.f.mx,.slice t.f.rq t.f.rs.length t.f.rc,.slice t.f.kq t.f.kl t.f.kc] 25))
 have P1:=aB ((K1.block _ (aC P0.out)).trans P0.out)
 have M1:=aB ((K1.block _ (aC M0.out)).trans M0.out)
 have B1:=aB (aF B0.out K1 lz9)
 clear K1 B0 P0 M0 p0 p1 p2 p3 p4 p5 p6 p7 p8 p9 p10 p11
 generalize (W0.alloc (.cells #[.int .i64 t.f.k,.int .i64 t.f.n,.int .i64 t.f.mn,.int .i64 t.f.mx,.slice t.f.rq t.f.rs.length t.f.rc,.slice t.f.kq t.f.kl t.f.kc] 25))=W1 at N1 P1 M1 B1 ⊢
 generalize W0.heap.size=bn at N1 ⊢
 have p0:W1.cell? ⟨w.heap.size,0,none⟩=some (.int .i64 t.f.k):=aA P1.out (i:=0) rfl
 have p1:W1.cell? ⟨w.heap.size,1,none⟩=some (.int .i64 t.f.n):=aA P1.out (i:=1) rfl
 have p2:W1.cell? ⟨w.heap.size,2,none⟩=some (.int .i64 t.f.mn):=aA P1.out (i:=2) rfl
 have p3:W1.cell? ⟨w.heap.size,3,none⟩=some (.int .i64 t.f.mx):=aA P1.out (i:=3) rfl
 have p4:W1.cell? ⟨w.heap.size,4,none⟩=some (.slice t.f.rq t.f.rs.length t.f.rc):=aA P1.out (i:=4) rfl
 have p5:W1.cell? ⟨w.heap.size,5,none⟩=some (.slice t.f.kq t.f.kl t.f.kc):=aA P1.out (i:=5) rfl
 have p6:W1.cell? ⟨w.heap.size,6,none⟩=some (.int .i64 ((p.length:Int)+1)):=aA P1.out (i:=6) rfl
 have p7:W1.cell? ⟨w.heap.size,7,none⟩=some (.int .i64 (arP p)):=aA P1.out (i:=7) rfl
 have p8:W1.cell? ⟨w.heap.size,8,none⟩=some (.bool (fiP p)):=aA P1.out (i:=8) rfl
 have p9:W1.cell? ⟨w.heap.size,9,none⟩=some (.bool (laP p)):=aA P1.out (i:=9) rfl
 have p10:W1.cell? ⟨w.heap.size,10,none⟩=some (.bool (brP p)):=aA P1.out (i:=10) rfl
 have p11:W1.cell? ⟨w.heap.size,11,none⟩=some (.int .i64 (o:Int)):=aA P1.out (i:=11) rfl
 have ST:=aB (aH0 p t o W1)
 obtain⟨s,hs⟩:∃ s,iW p t.f.k=s:=⟨_,rfl⟩
 rw [hs] at ST
 have HS:=aB hs
 clear hs
 go_upto_region 3 with (go_at_call 33;(with_reducible refine(ST.out).mono ?_);rintro e W2 ⟨rfl,h2⟩;have B2:=aB (aF B1.out h2 lz9);have N2:=aB ((h2.block _ (aC N1.out)).trans N1.out);have M2:=aB ((h2.block _ (aC M1.out)).trans M1.out);clear h2)
 clear p0 p1 p2 p3 p4 p5 p6 p7 p8 p9 p10 p11 N1 P1 M1 B1 ST
 cases s with
 | false=>
  go_wp2
  go_ret
  exact FormedP.mk false rfl (⟨fun z=>(by cases z),fun z=>by have:=z.1;rw [HS.out] at this;cases this⟩) B2.out
 | true=>
  have FT:Hid (bE c f p t↔eM c f t):=⟨fun z=>z.2,fun z=>⟨HS.out,z⟩⟩
  obtain⟨n0,n1,n2,n3,n4,n5⟩:=(show BoxN W2 bn t.f from N2.out).six
  simp only [a7] at n1 n2 n3 n4 n5
  have m0:W2.cell? ⟨bm,0,none⟩=some (.bool c):=aA M2.out (i:=0) rfl
  have m1:W2.cell? ⟨bm,1,none⟩=some (.bool f):=aA M2.out (i:=1) rfl
  obtain⟨k,hk⟩:∃ k,t.f.k=k:=⟨_,rfl⟩
  have TK:=aB (aF4 (c:=c) (f:=f) hk)
  have HKK:=aB hk
  obtain⟨ln,hln⟩:∃ ln,t.f.kl=ln:=⟨_,rfl⟩
  have HLN:=aB hln
  clear hk hln
  by_cases h1:k=1\/k=3\/k=4
  ·have BR:=aB (fun W=>wM t.f W)
   obtain⟨br,hbr⟩:∃ br,decide (t.f.n=0/\t.f.mn=0/\t.f.mx=0/\t.f.rs.length=0/\t.f.kl=0)=br:=⟨_,rfl⟩
   rw [hbr] at BR
   have HBR:=aB hbr
   clear hbr
   have HI:=aB (show br=true↔bE c f p t by
    rw [<- HBR.out,FT.out,TK.out,if_pos h1,_root_.Go.Proofs.YtlamifbjklpdbaaGreat.u6,HKL.out])
   rcases h1 with h1 | h1 | h1
   ·have q1:(t.f.k==1)=true:=beq_iff_eq.2 (by rw [HKK.out];omega)
    clear h1
    go_wp2_with (go_at_call 34;(with_reducible refine(BR.out _).mono ?_);rintro e W8 ⟨rfl,h8⟩;have B8:=aB (aF B2.out h8 lz9);clear h8)
    go_ret
    exact FormedP.mk br rfl (HI.out) B8.out
   ·have q1:(t.f.k==1)=false:=a8.2 (by rw [HKK.out];omega)
    have q3:(t.f.k==3)=true:=beq_iff_eq.2 (by rw [HKK.out];omega)
    clear h1
    go_wp2_with (go_at_call 34;(with_reducible refine(BR.out _).mono ?_);rintro e W8 ⟨rfl,h8⟩;have B8:=aB (aF B2.out h8 lz9);clear h8)
    go_ret
    exact FormedP.mk br rfl (HI.out) B8.out
   ·have q1:(t.f.k==1)=false:=a8.2 (by rw [HKK.out];omega)
    have q3:(t.f.k==3)=false:=a8.2 (by rw [HKK.out];omega)
    have q4:(t.f.k==4)=true:=beq_iff_eq.2 (by rw [HKK.out];omega)
    clear h1
    go_wp2_with (go_at_call 34;(with_reducible refine(BR.out _).mono ?_);rintro e W8 ⟨rfl,h8⟩;have B8:=aB (aF B2.out h8 lz9);clear h8)
    go_ret
    exact FormedP.mk br rfl (HI.out) B8.out
  by_cases h2:k=2
  ·have BR:=aB (fun W=>wK t.f W)
   obtain⟨br,hbr⟩:∃ br,decide (t.f.n=0/\t.f.mn=0/\t.f.mx=0/\t.f.kl=0)=br:=⟨_,rfl⟩
   rw [hbr] at BR
   have HBR:=aB hbr
   clear hbr
   have q1:(t.f.k==1)=false:=a8.2 (by rw [HKK.out];omega)
   have q3:(t.f.k==3)=false:=a8.2 (by rw [HKK.out];omega)
   have q4:(t.f.k==4)=false:=a8.2 (by rw [HKK.out];omega)
   have q2:(t.f.k==2)=true:=beq_iff_eq.2 (by rw [HKK.out];omega)
   have RC:=aB (zH (m:=c) (HNA.out.ck (CK.of_below B2.out)).r HF.out hrl)
   go_upto_region 12 with (go_at_call 35;(with_reducible refine(RC.out).mono ?_);rintro e W3 ⟨b3,rfl,hb3,h3⟩;have I3:=aB hb3;have B3:=aB (aF B2.out h3 lz9);have N3:=aB ((h3.block _ (aC N2.out)).trans N2.out);have M3:=aB ((h3.block _ (aC M2.out)).trans M2.out);clear hb3 h3)
   clear n0 n1 n2 n3 n4 n5 m0 m1
   have n4:W3.cell? ⟨bn,4,none⟩=some (.slice t.f.rq t.f.rs.length t.f.rc):=(show BoxN W3 bn t.f from N3.out).six.2.2.2.2.1
   have FC:=aB (aH4 (HNA.out.ck (CK.of_below B3.out)).r HF.out hrl)
   go_upto_region 13 with (go_at_call 36;(with_reducible refine(FC.out).mono ?_);rintro e W4 ⟨v4,C,rfl,h41,h42,h43,h44⟩;obtain⟨q4,k4,rfl⟩:=h41.shape;have X4:=aB h41;have I4:=aB h42;have B4:=aB (aF B3.out h44 lz9);have N4:=aB ((h44.block _ (aC N3.out)).trans N3.out);have M4:=aB ((h44.block _ (aC M3.out)).trans M3.out);clear h41 h42 h43 h44)
   clear n4
   have n4:W4.cell? ⟨bn,4,none⟩=some (.slice t.f.rq t.f.rs.length t.f.rc):=(show BoxN W4 bn t.f from N4.out).six.2.2.2.2.1
   have AK:=aB (qJ (HNA.out.ck (CK.of_below B4.out)).r X4.out.arg)
   obtain⟨aa,haa⟩:∃ aa,decide (t.f.rs=C)=aa:=⟨_,rfl⟩
   rw [haa] at AK
   have HAA:=aB haa
   clear haa
   go_upto_region 14 with (go_at_call 31;(with_reducible refine(AK.out).mono ?_);rintro e W5 ⟨rfl,h5⟩;have B5:=aB (aF B4.out h5 lz9);have N5:=aB ((h5.block _ (aC N4.out)).trans N4.out);have M5:=aB ((h5.block _ (aC M4.out)).trans M4.out);clear h5)
   clear n4
   obtain⟨n0,n1,n2,n3,n4,n5⟩:=(show BoxN W5 bn t.f from N5.out).six
   simp only [a7] at n1 n2 n3 n4 n5
   have m1:W5.cell? ⟨bm,1,none⟩=some (.bool f):=aA M5.out (i:=1) rfl
   have HI:=aB (show ((b3=true/\(f=true->aa=true))/\br=true)↔bE c f p t by
    rw [<- HBR.out,FT.out,TK.out,if_neg h1,if_pos h2,_root_.Go.Proofs.YtlamifbjklpdbaaGreat.u6,HKL.out,aG2 I4.out,I3.out,<- HAA.out,_root_.Go.Proofs.YtlamifbjklpdbaaGreat.u6])
   clear h1 h2 RC FC AK
   cases b3 with
   | false=>
    have HI2:=aB (show false=true↔bE c f p t from ⟨fun z=>(by cases z),fun z=>(HI.out.2 z).1.1⟩)
    go_wp2
    go_ret
    exact FormedP.mk false rfl (HI2.out) B5.out
   | true=>
    cases f with
    | false=>
     have HI2:=aB (show br=true↔bE c false p t from ⟨fun z=>HI.out.1 ⟨⟨rfl,fun q=>(by cases q)⟩,z⟩,fun z=>(HI.out.2 z).2⟩)
     go_wp2_with (go_at_call 34;(with_reducible refine(BR.out _).mono ?_);rintro e W8 ⟨rfl,h8⟩;have B8:=aB (aF B5.out h8 lz9);clear h8)
     go_ret
     exact FormedP.mk br rfl (HI2.out) B8.out
    | true=>
     cases aa with
     | false=>
      have HI2:=aB (show false=true↔bE c true p t from ⟨fun z=>(by cases z),fun z=>(HI.out.2 z).1.2 rfl⟩)
      go_wp2
      go_ret
      exact FormedP.mk false rfl (HI2.out) B5.out
     | true=>
      have HI2:=aB (show br=true↔bE c true p t from ⟨fun z=>HI.out.1 ⟨⟨rfl,fun _=>rfl⟩,z⟩,fun z=>(HI.out.2 z).2⟩)
      go_wp2_with (go_at_call 34;(with_reducible refine(BR.out _).mono ?_);rintro e W8 ⟨rfl,h8⟩;have B8:=aB (aF B5.out h8 lz9);clear h8)
      go_ret
      exact FormedP.mk br rfl (HI2.out) B8.out
  by_cases h56:k=5\/k=6
  ·have BR:=aB (fun W=>wL t.f W)
   obtain⟨br,hbr⟩:∃ br,decide (t.f.n=0/\t.f.mn=0/\t.f.mx=0/\t.f.rs.length=0)=br:=⟨_,rfl⟩
   rw [hbr] at BR
   have HBR:=aB hbr
   clear hbr
   have HI:=aB (show (1<ln/\br=true)↔bE c f p t by
    rw [<- HBR.out,FT.out,TK.out,if_neg h1,if_neg h2,if_pos h56,_root_.Go.Proofs.YtlamifbjklpdbaaGreat.u6,<- HLN.out,HKL.out])
   by_cases hl:1<ln
   ·have el:(1:Int)<(t.f.kl:Int):=by rw [HLN.out];omega
    have HI2:=aB (show br=true↔bE c f p t from ⟨fun z=>HI.out.1 ⟨hl,z⟩,fun z=>(HI.out.2 z).2⟩)
    clear hl
    rcases h56 with h5 | h5
    ·have q1:(t.f.k==1)=false:=a8.2 (by rw [HKK.out];omega)
     have q3:(t.f.k==3)=false:=a8.2 (by rw [HKK.out];omega)
     have q4:(t.f.k==4)=false:=a8.2 (by rw [HKK.out];omega)
     have q2:(t.f.k==2)=false:=a8.2 (by rw [HKK.out];omega)
     have q5:(t.f.k==5)=true:=beq_iff_eq.2 (by rw [HKK.out];omega)
     clear h5 h1 h2
     go_wp2_with (go_at_call 34;(with_reducible refine(BR.out _).mono ?_);rintro e W8 ⟨rfl,h8⟩;have B8:=aB (aF B2.out h8 lz9);clear h8)
     go_ret
     exact FormedP.mk br rfl (HI2.out) B8.out
    ·have q1:(t.f.k==1)=false:=a8.2 (by rw [HKK.out];omega)
     have q3:(t.f.k==3)=false:=a8.2 (by rw [HKK.out];omega)
     have q4:(t.f.k==4)=false:=a8.2 (by rw [HKK.out];omega)
     have q2:(t.f.k==2)=false:=a8.2 (by rw [HKK.out];omega)
     have q5:(t.f.k==5)=false:=a8.2 (by rw [HKK.out];omega)
     have q6:(t.f.k==6)=true:=beq_iff_eq.2 (by rw [HKK.out];omega)
     clear h5 h1 h2
     go_wp2_with (go_at_call 34;(with_reducible refine(BR.out _).mono ?_);rintro e W8 ⟨rfl,h8⟩;have B8:=aB (aF B2.out h8 lz9);clear h8)
     go_ret
     exact FormedP.mk br rfl (HI2.out) B8.out
   ·have el:¬ (1:Int)<(t.f.kl:Int):=by rw [HLN.out];omega
    have HI2:=aB (show false=true↔bE c f p t from ⟨fun z=>(by cases z),fun z=>absurd (HI.out.2 z).1 hl⟩)
    clear hl
    rcases h56 with h5 | h5
    ·have q1:(t.f.k==1)=false:=a8.2 (by rw [HKK.out];omega)
     have q3:(t.f.k==3)=false:=a8.2 (by rw [HKK.out];omega)
     have q4:(t.f.k==4)=false:=a8.2 (by rw [HKK.out];omega)
     have q2:(t.f.k==2)=false:=a8.2 (by rw [HKK.out];omega)
     have q5:(t.f.k==5)=true:=beq_iff_eq.2 (by rw [HKK.out];omega)
     clear h5 h1 h2
     go_wp2
     go_ret
     exact FormedP.mk false rfl (HI2.out) B2.out
    ·have q1:(t.f.k==1)=false:=a8.2 (by rw [HKK.out];omega)
     have q3:(t.f.k==3)=false:=a8.2 (by rw [HKK.out];omega)
     have q4:(t.f.k==4)=false:=a8.2 (by rw [HKK.out];omega)
     have q2:(t.f.k==2)=false:=a8.2 (by rw [HKK.out];omega)
     have q5:(t.f.k==5)=false:=a8.2 (by rw [HKK.out];omega)
     have q6:(t.f.k==6)=true:=beq_iff_eq.2 (by rw [HKK.out];omega)
     clear h5 h1 h2
     go_wp2
     go_ret
     exact FormedP.mk false rfl (HI2.out) B2.out
  by_cases h7:k=7
  ·have BR:=aB (fun W=>wH t.f W)
   obtain⟨br,hbr⟩:∃ br,decide (t.f.mn=0/\t.f.mx=0/\t.f.rs.length=0)=br:=⟨_,rfl⟩
   rw [hbr] at BR
   have HBR:=aB hbr
   clear hbr
   have HI:=aB (show (ln=1/\br=true)↔bE c f p t by
    rw [<- HBR.out,FT.out,TK.out,if_neg h1,if_neg h2,if_neg h56,if_pos h7,_root_.Go.Proofs.YtlamifbjklpdbaaGreat.u6,<- HLN.out,HKL.out])
   have q1:(t.f.k==1)=false:=a8.2 (by rw [HKK.out];omega)
   have q3:(t.f.k==3)=false:=a8.2 (by rw [HKK.out];omega)
   have q4:(t.f.k==4)=false:=a8.2 (by rw [HKK.out];omega)
   have q2:(t.f.k==2)=false:=a8.2 (by rw [HKK.out];omega)
   have q5:(t.f.k==5)=false:=a8.2 (by rw [HKK.out];omega)
   have q6:(t.f.k==6)=false:=a8.2 (by rw [HKK.out];omega)
   have q7:(t.f.k==7)=true:=beq_iff_eq.2 (by rw [HKK.out];omega)
   clear h1 h2 h56 h7
   by_cases hl:ln=1
   ·have el:((t.f.kl:Int)==1)=true:=beq_iff_eq.2 (by rw [HLN.out];omega)
    have HI2:=aB (show br=true↔bE c f p t from ⟨fun z=>HI.out.1 ⟨hl,z⟩,fun z=>(HI.out.2 z).2⟩)
    clear hl
    go_wp2_with (go_at_call 34;(with_reducible refine(BR.out _).mono ?_);rintro e W8 ⟨rfl,h8⟩;have B8:=aB (aF B2.out h8 lz9);clear h8)
    go_ret
    exact FormedP.mk br rfl (HI2.out) B8.out
   ·have el:((t.f.kl:Int)==1)=false:=a8.2 (by rw [HLN.out];omega)
    have HI2:=aB (show false=true↔bE c f p t from ⟨fun z=>(by cases z),fun z=>absurd (HI.out.2 z).1 hl⟩)
    clear hl
    go_wp2
    go_ret
    exact FormedP.mk false rfl (HI2.out) B2.out
  by_cases h8:k=8
  ·have BR:=aB (fun W=>wI t.f W)
   obtain⟨br,hbr⟩:∃ br,decide (t.f.mn=0/\t.f.mx=0/\t.f.rs.length=0/\t.f.kl=0)=br:=⟨_,rfl⟩
   rw [hbr] at BR
   have HBR:=aB hbr
   clear hbr
   have HI:=aB (show ((1<=t.f.n/\t.f.n<=9)/\br=true)↔bE c f p t by
    rw [<- HBR.out,FT.out,TK.out,if_neg h1,if_neg h2,if_neg h56,if_neg h7,if_pos h8,_root_.Go.Proofs.YtlamifbjklpdbaaGreat.u6,HKL.out])
   have q1:(t.f.k==1)=false:=a8.2 (by rw [HKK.out];omega)
   have q3:(t.f.k==3)=false:=a8.2 (by rw [HKK.out];omega)
   have q4:(t.f.k==4)=false:=a8.2 (by rw [HKK.out];omega)
   have q2:(t.f.k==2)=false:=a8.2 (by rw [HKK.out];omega)
   have q5:(t.f.k==5)=false:=a8.2 (by rw [HKK.out];omega)
   have q6:(t.f.k==6)=false:=a8.2 (by rw [HKK.out];omega)
   have q7:(t.f.k==7)=false:=a8.2 (by rw [HKK.out];omega)
   have q8:(t.f.k==8)=true:=beq_iff_eq.2 (by rw [HKK.out];omega)
   clear h1 h2 h56 h7 h8
   by_cases g1:1<=t.f.n
   ·by_cases g2:t.f.n<=9
    ·have HI2:=aB (show br=true↔bE c f p t from ⟨fun z=>HI.out.1 ⟨⟨g1,g2⟩,z⟩,fun z=>(HI.out.2 z).2⟩)
     go_wp2_with (go_at_call 34;(with_reducible refine(BR.out _).mono ?_);rintro e W8 ⟨rfl,h8⟩;have B8:=aB (aF B2.out h8 lz9);clear h8)
     go_ret
     exact FormedP.mk br rfl (HI2.out) B8.out
    ·have HI2:=aB (show false=true↔bE c f p t from ⟨fun z=>(by cases z),fun z=>absurd (HI.out.2 z).1.2 g2⟩)
     go_wp2
     go_ret
     exact FormedP.mk false rfl (HI2.out) B2.out
   ·have HI2:=aB (show false=true↔bE c f p t from ⟨fun z=>(by cases z),fun z=>absurd (HI.out.2 z).1.1 g1⟩)
    go_wp2
    go_ret
    exact FormedP.mk false rfl (HI2.out) B2.out
  by_cases h9:k=9
  ·have BR:=aB (fun W=>wJ t.f W)
   obtain⟨br,hbr⟩:∃ br,decide (t.f.n=0/\t.f.rs.length=0)=br:=⟨_,rfl⟩
   rw [hbr] at BR
   have HBR:=aB hbr
   clear hbr
   have BD:=aB (fun W=>aH7 t.f.mn t.f.mx W)
   obtain⟨bd,hbd⟩:∃ bd,eW t.f.mn t.f.mx=bd:=⟨_,rfl⟩
   rw [hbd] at BD
   have HBD:=aB hbd
   clear hbd
   have HI:=aB (show (bd=true/\ln=1/\br=true)↔bE c f p t by
    rw [<- HBR.out,FT.out,TK.out,if_neg h1,if_neg h2,if_neg h56,if_neg h7,if_neg h8,if_pos h9,_root_.Go.Proofs.YtlamifbjklpdbaaGreat.u6,<- HLN.out,HKL.out,HBD.out])
   have q1:(t.f.k==1)=false:=a8.2 (by rw [HKK.out];omega)
   have q3:(t.f.k==3)=false:=a8.2 (by rw [HKK.out];omega)
   have q4:(t.f.k==4)=false:=a8.2 (by rw [HKK.out];omega)
   have q2:(t.f.k==2)=false:=a8.2 (by rw [HKK.out];omega)
   have q5:(t.f.k==5)=false:=a8.2 (by rw [HKK.out];omega)
   have q6:(t.f.k==6)=false:=a8.2 (by rw [HKK.out];omega)
   have q7:(t.f.k==7)=false:=a8.2 (by rw [HKK.out];omega)
   have q8:(t.f.k==8)=false:=a8.2 (by rw [HKK.out];omega)
   have q9:(t.f.k==9)=true:=beq_iff_eq.2 (by rw [HKK.out];omega)
   clear h1 h2 h56 h7 h8 h9
   cases bd with
   | false=>
    have HI2:=aB (show false=true↔bE c f p t from ⟨fun z=>(by cases z),fun z=>(HI.out.2 z).1⟩)
    go_wp2_with (go_at_call 37;(with_reducible refine(BD.out _).mono ?_);rintro e w5 ⟨rfl,h5⟩;subst w5)
    go_ret
    exact FormedP.mk false rfl (HI2.out) B2.out
   | true=>
    by_cases hl:ln=1
    ·have el:((t.f.kl:Int)==1)=true:=beq_iff_eq.2 (by rw [HLN.out];omega)
     have HI2:=aB (show br=true↔bE c f p t from ⟨fun z=>HI.out.1 ⟨rfl,hl,z⟩,fun z=>(HI.out.2 z).2.2⟩)
     clear hl
     go_wp2_with first |(go_at_call 37;(with_reducible refine(BD.out _).mono ?_);rintro e w5 ⟨rfl,h5⟩;subst w5) |(go_at_call 34;(with_reducible refine(BR.out _).mono ?_);rintro e W8 ⟨rfl,h8⟩;have B8:=aB (aF B2.out h8 lz9);clear h8)
     go_ret
     exact FormedP.mk br rfl (HI2.out) B8.out
    ·have el:((t.f.kl:Int)==1)=false:=a8.2 (by rw [HLN.out];omega)
     have HI2:=aB (show false=true↔bE c f p t from ⟨fun z=>(by cases z),fun z=>absurd (HI.out.2 z).2.1 hl⟩)
     clear hl
     go_wp2_with (go_at_call 37;(with_reducible refine(BD.out _).mono ?_);rintro e w5 ⟨rfl,h5⟩;subst w5)
     go_ret
     exact FormedP.mk false rfl (HI2.out) B2.out
  have q1:(t.f.k==1)=false:=a8.2 (by rw [HKK.out];omega)
  have q3:(t.f.k==3)=false:=a8.2 (by rw [HKK.out];omega)
  have q4:(t.f.k==4)=false:=a8.2 (by rw [HKK.out];omega)
  have q2:(t.f.k==2)=false:=a8.2 (by rw [HKK.out];omega)
  have q5:(t.f.k==5)=false:=a8.2 (by rw [HKK.out];omega)
  have q6:(t.f.k==6)=false:=a8.2 (by rw [HKK.out];omega)
  have q7:(t.f.k==7)=false:=a8.2 (by rw [HKK.out];omega)
  have q8:(t.f.k==8)=false:=a8.2 (by rw [HKK.out];omega)
  have q9:(t.f.k==9)=false:=a8.2 (by rw [HKK.out];omega)
  have HI2:=aB (show false=true↔bE c f p t from ⟨fun z=>(by cases z),fun z=>by
   have:=TK.out.1 (FT.out.1 z)
   rw [if_neg h1,if_neg h2,if_neg h56,if_neg h7,if_neg h8,if_neg h9] at this
   exact this.elim⟩)
  clear h1 h2 h56 h7 h8 h9
  go_wp2
  go_ret
  exact FormedP.mk false rfl (HI2.out) B2.out
section
theorem aU6(W:World)(a:Value)(t:TypeId):∀ (j:Nat) (u:Value),[a][j]?=some u->(W.alloc (.cells #[a] t)).cell? ((⟨W.heap.size,0,none⟩:Addr).add j)=some u:=by
 intro j u h
 match j,h with
 | 0,h=>simp at h;subst h;simp [Addr.add]
theorem aM0(most:Nat):∀ (a:List El) (k j:Nat) (z:Zl),(tl most k a)[j]?=some z->z.2=min (k+j+z.1.2.sz) most
 | [],k,j,z,h=>by simp [tl] at h
 | x :: a,k,0,z,h=>by
  rw [tl] at h
  simp at h
  subst h
  rfl
 | x :: a,k,j+1,z,h=>by
  rw [tl,s7] at h
  have:=aM0 most a (k+1) j z h
  omega
theorem aJ4{t:Tr}{j:Nat}{z:Zl}(h:(fW 2001 t)[j]?=some z):z.2=min (j+z.1.2.sz) 2001:=by
 have h':((tl 2001 0 (pp [] t)).take 2001)[j]?=some z:=by
  unfold fW jK at h
  rw [n9,List.length_nil,Nat.sub_zero] at h
  exact h
 have hj:(tl 2001 0 (pp [] t))[j]?=some z:=by
  obtain⟨hl,hv⟩:=i7.1 h'
  rw [o9] at hl
  rw [List.getElem_take] at hv
  exact i7.2 ⟨by omega,hv⟩
 have:=aM0 _ _ _ _ _ hj
 omega
theorem aA8{c f:Bool}{p:Way}{t:Tr}{i g:Nat}(h:bN c f p t i g=0)(hk:t.f.k=7):t.f.n=(g:Int)+1:=by
 obtain⟨h1,h2,h3⟩:=gZ h
 exact(gA.1 ⟨(by rw [hk];rfl),h2,h3⟩).2 hk
def RG(c f:Bool)(pre:List El):Prop:=∀ (j:Nat) (y:El),pre[j]?=some y->bN c f y.1 y.2 j (aI (pre.take j))=0
theorem RG.nil(c f:Bool):RG c f []:=fun j y h=>by simp at h
theorem RG.step{c f:Bool}{pre:List El}{x:El}(h:RG c f pre)(hx:bN c f x.1 x.2 pre.length (aI pre)=0):RG c f (pre++[x]):=fun j y hy=>by
 rcases Nat.lt_or_ge j pre.length with hj | hj
 ·rw [r6 hj] at hy
  rw [List.take_append_of_le_length (by omega)]
  exact h j y hy
 ·rw [o0 hj] at hy
  have h0:j-pre.length=0:=by
   rcases Nat.eq_zero_or_pos (j-pre.length) with z | z
   ·exact z
   ·rw [show j-pre.length=(j-pre.length-1)+1 by omega] at hy
    simp at hy
  rw [h0] at hy
  simp at hy
  subst hy
  have hj2:j=pre.length:=by omega
  subst hj2
  rw [List.take_left]
  exact hx
theorem jT{c f:Bool}:∀ (a b:List El) (i g:Nat),(∀ (j:Nat) (y:El),a[j]?=some y->bN c f y.1 y.2 (i+j) (g+aI (a.take j))=0)->aV c f i g (a++b)=aV c f (i+a.length) (g+aI a) b
 | [],b,i,g,_=>by simp [aI]
 | x :: a,b,i,g,h=>by
  have h0:=h 0 x rfl
  rw [List.take_zero,aAE] at h0
  have h0':bN c f x.1 x.2 i g=0:=h0
  have ih:=jT a b (i+1) (g+(if x.2.f.k=7 then 1 else 0)) (fun j y hy=>by
   have:=h (j+1) y (by rw [s7];exact hy)
   rw [aAD,aI] at this
   rw [show i+1+j=i+(j+1) by omega,t9]
   exact this)
  rw [l7]
  simp only [aV,h0',ne_eq,not_true,if_false]
  rw [ih,i9,aI,show i+1+a.length=i+(a.length+1) by omega,t9]
theorem RG.stop{c f:Bool}{t:Tr}{j:Nat}{x:El}{m:Int}(h:RG c f ((pp [] t).take j))(hx:(pp [] t)[j]?=some x)(hm:bN c f x.1 x.2 j (aI ((pp [] t).take j))=m)(h0:m≠0):aV c f 0 0 (pp [] t)=m:=by
 have hj:=(i7.1 hx).1
 have e:pp [] t=(pp [] t).take j++x :: (pp [] t).drop (j+1):=by
  have:=_root_.Go.Proofs.YtlamifbjklpdbaaGreat.u9 j (pp [] t)
  rw [_root_.Go.Proofs.YtlamifbjklpdbaaGreat.u8 hj,(i7.1 hx).2] at this
  exact this.symm
 have hl:((pp [] t).take j).length=j:=by rw [o9];omega
 have hs:=jT ((pp [] t).take j) (x :: (pp [] t).drop (j+1)) 0 0 (fun k y hy=>by rw [a7,a7];exact h k y hy)
 rw [<- e,a7,a7,hl] at hs
 rw [hs]
 simp only [aV,hm,ne_eq,h0,not_false_eq_true,if_true]
theorem RG.all{c f:Bool}{t:Tr}(h:RG c f (pp [] t)):aV c f 0 0 (pp [] t)=0:=by
 have hs:=jT (pp [] t) [] 0 0 (fun k y hy=>by rw [a7,a7];exact h k y hy)
 rw [l9] at hs
 rw [hs]
 rfl
theorem mR{t:Tr}{j:Nat}{x:El}(hx:(pp [] t)[j]?=some x):(pp [] t).take j++[x] <+: pp [] t:=by
 have:(pp [] t).take (j+1)=(pp [] t).take j++[x]:=by rw [o7,hx];rfl
 rw [<- this]
 exact List.take_prefix _ _
theorem pA{t:Tr}{j k:Nat}{y:El}(h:((pp [] t).take j)[k]?=some y):(pp [] t)[k]?=some y:=by
 obtain⟨hl,hv⟩:=i7.1 h
 rw [o9] at hl
 rw [List.getElem_take] at hv
 exact i7.2 ⟨by omega,hv⟩
open Classical in
theorem aB0{c f:Bool}{p:Way}{t:Tr}{i g:Nat}(hbr:∀ par i r,p=(par,i) :: r->par.f.k=5->brP r=true):bN c f p t i g=if i=2000 then 42 else if 40<p.length+1 then 43 else if ¬ (bE c f p t/\(t.f.k=7->t.f.n=(g:Int)+1)) then 50 else if t.f.k=7/\30<t.f.n then 42 else if t.f.k=8/\¬ (eZ p t.f.n=false/\t.f.n<=(g:Int)) then 41 else 0:=by
 unfold bN
 simp only [tT hbr]
structure RS(w5:World)(t:Tr)(c f:Bool)(j gr:Nat)(v:Value)(W:World):Prop where
 le:j<=2000
 cnt:aI ((pp [] t).take j)=gr
 row:W.ownsRow w5.heap.size 3 1 v gr (fB ((fC 0 ((pp [] t).take j)).map Int.ofNat))
 bel:Below w5.heap.size w5 W
 ok:RG c f ((pp [] t).take j)
theorem RS.next{w5 W W':World}{t:Tr}{c f:Bool}{j gr:Nat}{v:Value}{x:El}(h:RS w5 t c f j gr v W)(hx:(pp [] t)[j]?=some x)(hj:j<2000)(h0:bN c f x.1 x.2 j gr=0)(hk:x.2.f.k≠7)(hb:Below W.heap.size W W'):RS w5 t c f (j+1) gr v W':=by
 have hl:=(i7.1 hx).1
 have hlen:((pp [] t).take j).length=j:=by rw [o9];omega
 have e:(pp [] t).take (j+1)=(pp [] t).take j++[x]:=by rw [o7,hx];rfl
 refine⟨by omega,?_,?_,aF h.bel hb lz9,?_⟩
 ·rw [e,eP,if_neg hk,h.cnt];rfl
 ·rw [e,oP,if_neg hk,l9]
  exact aK h.row (Fr.of_below (S:=fun _=>False) hb) (fun _ _ z=>z)
 ·rw [e]
  refine h.ok.step ?_
  rw [hlen,h.cnt]
  exact h0
theorem RS.group{w5 W W':World}{t:Tr}{c f:Bool}{j gr:Nat}{v v':Value}{x:El}(h:RS w5 t c f j gr v W)(hx:(pp [] t)[j]?=some x)(hj:j<2000)(h0:bN c f x.1 x.2 j gr=0)(hk:x.2.f.k=7)(hr:W'.ownsRow w5.heap.size 3 1 v' (gr+1) (fB ((fC 0 ((pp [] t).take j)).map Int.ofNat)++[.int .i64 (j:Int)]))(hb:Below w5.heap.size w5 W'):RS w5 t c f (j+1) (gr+1) v' W':=by
 have hl:=(i7.1 hx).1
 have hlen:((pp [] t).take j).length=j:=by rw [o9];omega
 have e:(pp [] t).take (j+1)=(pp [] t).take j++[x]:=by rw [o7,hx];rfl
 refine⟨by omega,?_,?_,hb,?_⟩
 ·rw [e,eP,if_pos hk,h.cnt]
 ·rw [e,oP,if_pos hk,hlen,o4,rM]
  exact hr
 ·rw [e]
  refine h.ok.step ?_
  rw [hlen,h.cnt]
  exact h0
theorem RS.back{w5 W:World}{t:Tr}{c f:Bool}{j gr:Nat}{v:Value}{x:El}(h:RS w5 t c f j gr v W)(hx:(pp [] t)[j]?=some x)(hj:j<2000){N:Nat}(hN:N<gr):∃ jj:Nat,(fC 0 ((pp [] t).take j))[N]?=some jj/\∃ y,(pp [] t)[jj]?=some y/\jj<j/\(eZ x.1 ((N:Int)+1)=false↔min (jj+y.2.sz) 2001<=j):=by
 have hl:=(i7.1 hx).1
 have hlen:((pp [] t).take j).length=j:=by rw [o9];omega
 have hg:N<(fC 0 ((pp [] t).take j)).length:=by rw [kY,h.cnt];exact hN
 obtain⟨jj,hjj⟩:∃ jj,(fC 0 ((pp [] t).take j))[N]?=some jj:=⟨_,b7 hg⟩
 obtain⟨y,hy,hiff⟩:=aV0 (mR hx) (fun k z hz hk=>aA8 (h.ok k z hz) hk) (by omega) hjj
 rw [hlen] at hiff
 have:=(i7.1 hy).1
 exact⟨jj,hjj,y,pA hy,by omega,hiff⟩
theorem pK{w:World}{t:Tr}(c f:Bool)(hta:TB w t)(hsm:∀ x∈pp [] t,x.2.f.rs.length<=1048580):Calls Tryz.prog 6 #[.agg #[.int .i64 t.f.k,.int .i64 t.f.n,.int .i64 t.f.mn,.int .i64 t.f.mx,.slice t.f.rq t.f.rs.length t.f.rc,.slice t.f.kq t.f.kl t.f.kc],.agg #[.bool c,.bool f]] w fun e w'=>e=.returned (.int .i64 (aV c f 0 0 (pp [] t)))/\Below w.heap.size w w':=by
 have B1:Hid (Below w.heap.size w ((w.alloc (.cells #[.int .i64 t.f.k,.int .i64 t.f.n,.int .i64 t.f.mn,.int .i64 t.f.mx,.slice t.f.rq t.f.rs.length t.f.rc,.slice t.f.kq t.f.kl t.f.kc] 25)).alloc (.cells #[.bool c,.bool f] 27))):=(bz9).alloc (by simp) _
 have N1:Hid (BoxN ((w.alloc (.cells #[.int .i64 t.f.k,.int .i64 t.f.n,.int .i64 t.f.mn,.int .i64 t.f.mx,.slice t.f.rq t.f.rs.length t.f.rc,.slice t.f.kq t.f.kl t.f.kc] 25)).alloc (.cells #[.bool c,.bool f] 27)) w.heap.size t.f):=(Below.heap_alloc _ _ _ (by simp)).trans (aD w _)
 have M1:Hid (((w.alloc (.cells #[.int .i64 t.f.k,.int .i64 t.f.n,.int .i64 t.f.mn,.int .i64 t.f.mx,.slice t.f.rq t.f.rs.length t.f.rc,.slice t.f.kq t.f.kl t.f.kc] 25)).alloc (.cells #[.bool c,.bool f] 27)).heap[w.heap.size+1]?=some (.cells #[.bool c,.bool f] 27 (0,0))):=(by
  have:=aD (w.alloc (.cells #[.int .i64 t.f.k,.int .i64 t.f.n,.int .i64 t.f.mn,.int .i64 t.f.mx,.slice t.f.rq t.f.rs.length t.f.rc,.slice t.f.kq t.f.kl t.f.kc] 25)) (.cells #[.bool c,.bool f] 27)
  rwa [m8] at this)
 have HTA:=aB hta
 have HSM:=aB hsm
 obtain⟨R,hR⟩:∃ R,aV c f 0 0 (pp [] t)=R:=⟨_,rfl⟩
 rw [hR]
 have HR:=aB hR
 clear hta hsm hR
 go_enter Tryz.func6,Tryz.ntmps6
 go_upto_region 1 with fail
 generalize ((w.alloc (.cells #[.int .i64 t.f.k,.int .i64 t.f.n,.int .i64 t.f.mn,.int .i64 t.f.mx,.slice t.f.rq t.f.rs.length t.f.rc,.slice t.f.kq t.f.kl t.f.kc] 25)).alloc (.cells #[.bool c,.bool f] 27))=W1 at B1 N1 M1 ⊢
 generalize w.heap.size+1=bm at M1 ⊢
 obtain⟨c0,c1,c2,c3,c4,c5⟩:=N1.out.six
 simp only [a7] at c1 c2 c3 c4 c5
 have LA:=aB (lS (w:=W1) 2001 (by omega) (HTA.out.kept B1.out))
 have HZL:=aB (gK 2001 t)
 have HZM:=aB (gJ 2001 t)
 have HTO:=aB (fun (j:Nat) (z:Zl) (h:(fW 2001 t)[j]?=some z)=>aJ4 h)
 have hz:=gK 2001 t
 have hzl:(fW 2001 t).length<=2001:=by omega
 clear hz
 generalize fW 2001 t=Z at LA HZL HZM HTO hzl
 go_upto_region 5 with (go_at_call 19;refine(LA.out).mono ?_;rintro e w5 ⟨q5,k5,rfl,h51,h52⟩;have Z5:=aB h51;have B5:=aB h52;clear h51 h52)
 have M5:=aB ((B5.out.block _ (aC M1.out)).trans M1.out)
 have B6:=aB (aF B1.out B5.out lz9)
 clear c0 c1 c2 c3 c4 c5 LA B1 B5 N1 M1
 go_loopw [8,7,6] (fun i v g wr=>∃ (j gr:Nat) (q:Option Addr) (ca:Nat),j<=Z.length/\i=.int .i64 (j:Int)/\v=.slice q gr ca/\g=.int .i64 (gr:Int)/\RS w5 t c f j gr (.slice q gr ca) wr) (fun i _ _ _=>Z.length-(intOf i).toNat)
 case atStart=>exact⟨0,0,none,0,m7 _,rfl,rfl,rfl,⟨m7 _,rfl,t4 _ _ _ _,Below.refl _ _,RG.nil c f⟩⟩
 case round=>
  obtain⟨j,gr,q,ca,hj,rfl,rfl,rfl,hs⟩:=hrel
  have HS:=aB hs
  have hgr:gr<=2000:=by
   have h1:=hs.cnt
   have h2:=mI ((pp [] t).take j)
   rw [o9] at h2
   have:=hs.le
   omega
  have hj2:=hs.le
  clear hs
  by_cases hjl:j<Z.length
  case neg=>
   have i0:¬ (j:Int)<(Z.length:Int):=by omega
   have HD:=aB (show R=0 by
    rw [<- HR.out]
    have h1:=HZL.out
    have h2:=HS.out.ok
    rw [j5 (by omega)] at h2
    exact h2.all)
   have BX:=aB (aF B6.out HS.out.bel lz9)
   clear hjl
   go_wp2
   go_ret
   exact⟨congrArg (fun z=>Ending.returned (.int .i64 z)) HD.out.symm,BX.out⟩
  have i0:(j:Int)<(Z.length:Int):=by omega
  obtain⟨⟨x,o⟩,hx⟩:∃ z,Z[j]?=some z:=⟨_,b7 hjl⟩
  obtain⟨ga,cz,hq⟩:=aN Z5.out (by omega)
  injection hq with hq1 _ hq2
  subst hq1 hq2
  have YA:ZR W1.heap.size wr (.slice (some ⟨ga,0,none⟩) Z.length k5) Z:=aK Z5.out (Fr.of_below (S:=fun _=>False) HS.out.bel) (fun _ _ z=>z)
  have x0:wr.cell? ⟨ga,j*12,none⟩=some (.int .i64 x.2.f.k):=YA.cells hx (j:=0) rfl
  have x1:wr.cell? ⟨ga,j*12+1,none⟩=some (.int .i64 x.2.f.n):=YA.cells hx (j:=1) rfl
  have x2:wr.cell? ⟨ga,j*12+2,none⟩=some (.int .i64 x.2.f.mn):=YA.cells hx (j:=2) rfl
  have x3:wr.cell? ⟨ga,j*12+3,none⟩=some (.int .i64 x.2.f.mx):=YA.cells hx (j:=3) rfl
  have x4:wr.cell? ⟨ga,j*12+4,none⟩=some (.slice x.2.f.rq x.2.f.rs.length x.2.f.rc):=YA.cells hx (j:=4) rfl
  have x5:wr.cell? ⟨ga,j*12+5,none⟩=some (.slice x.2.f.kq x.2.f.kl x.2.f.kc):=YA.cells hx (j:=5) rfl
  have x6:wr.cell? ⟨ga,j*12+6,none⟩=some (.int .i64 ((x.1.length:Int)+1)):=YA.cells hx (j:=6) rfl
  have x7:wr.cell? ⟨ga,j*12+7,none⟩=some (.int .i64 (arP x.1)):=YA.cells hx (j:=7) rfl
  have x8:wr.cell? ⟨ga,j*12+8,none⟩=some (.bool (fiP x.1)):=YA.cells hx (j:=8) rfl
  have x9:wr.cell? ⟨ga,j*12+9,none⟩=some (.bool (laP x.1)):=YA.cells hx (j:=9) rfl
  have x10:wr.cell? ⟨ga,j*12+10,none⟩=some (.bool (brP x.1)):=YA.cells hx (j:=10) rfl
  have x11:wr.cell? ⟨ga,j*12+11,none⟩=some (.int .i64 (o:Int)):=YA.cells hx (j:=11) rfl
  have hxt:(pp [] t)[j]?=some x:=pA (j:=2001) (by rw [<- HZM.out,t8,hx];rfl)
  have HX:=aB hxt
  have HBR:=aB (aV3 (mR hxt) HS.out.ok)
  have HST:=aB (fun (m:Int) (h:bN c f x.1 x.2 j gr=m) (h0:m≠0)=>HR.out.symm.trans (HS.out.ok.stop hxt (by rw [HS.out.cnt];exact h) h0))
  have BW:=aB (aF B6.out HS.out.bel lz9)
  have HNA:=aB ((HTA.out.at (i5 hxt)).node.ck (CK.of_below BW.out))
  have HSL:=aB (HSM.out x (i5 hxt))
  have MW:=aB ((HS.out.bel.block _ (aC M5.out)).trans M5.out)
  have hdp:=oG (t:=t) (pre:=(pp [] t).take j) (x:=x) (mR hxt)
  rw [o9] at hdp
  have hdp2:x.1.length<=2001:=by omega
  have lga:ga<wr.heap.size:=(aG YA (g:=ga) rfl).2.1
  have HYA:=aB YA
  clear hx hxt YA hdp
  go_upto_region 8 with fail
  have K2:=aB (show Below wr.heap.size wr (wr.alloc (.cells #[.int .i64 x.2.f.k,.int .i64 x.2.f.n,.int .i64 x.2.f.mn,.int .i64 x.2.f.mx,.slice x.2.f.rq x.2.f.rs.length x.2.f.rc,.slice x.2.f.kq x.2.f.kl x.2.f.kc,.int .i64 ((x.1.length:Int)+1),.int .i64 (arP x.1),.bool (fiP x.1),.bool (laP x.1),.bool (brP x.1),.int .i64 (o:Int)] 56)) from bz9)
  have P2:=aB (aD wr (.cells #[.int .i64 x.2.f.k,.int .i64 x.2.f.n,.int .i64 x.2.f.mn,.int .i64 x.2.f.mx,.slice x.2.f.rq x.2.f.rs.length x.2.f.rc,.slice x.2.f.kq x.2.f.kl x.2.f.kc,.int .i64 ((x.1.length:Int)+1),.int .i64 (arP x.1),.bool (fiP x.1),.bool (laP x.1),.bool (brP x.1),.int .i64 (o:Int)] 56))
  have M2:=aB ((K2.out.block _ (aC MW.out)).trans MW.out)
  have A2:=aB (HNA.out.ck (CK.of_below K2.out))
  clear x0 x1 x2 x3 x4 x5 x6 x7 x8 x9 x10 x11
  generalize (wr.alloc (.cells #[.int .i64 x.2.f.k,.int .i64 x.2.f.n,.int .i64 x.2.f.mn,.int .i64 x.2.f.mx,.slice x.2.f.rq x.2.f.rs.length x.2.f.rc,.slice x.2.f.kq x.2.f.kl x.2.f.kc,.int .i64 ((x.1.length:Int)+1),.int .i64 (arP x.1),.bool (fiP x.1),.bool (laP x.1),.bool (brP x.1),.int .i64 (o:Int)] 56))=W2 at K2 P2 M2 A2 ⊢
  obtain⟨b8,hb8⟩:∃ b8,wr.heap.size=b8:=⟨_,rfl⟩
  have HNB:=aB (show (Value.slice q gr ca).ownBlock≠some wr.heap.size from fun e=>absurd (aG HS.out.row e).2.1 (Nat.lt_irrefl _))
  rw [hb8] at P2 HNB ⊢
  clear hb8
  have B2:=aB (aF BW.out K2.out lz9)
  have p0:W2.cell? ⟨b8,0,none⟩=some (.int .i64 x.2.f.k):=aA P2.out (i:=0) rfl
  have p1:W2.cell? ⟨b8,1,none⟩=some (.int .i64 x.2.f.n):=aA P2.out (i:=1) rfl
  have p2:W2.cell? ⟨b8,2,none⟩=some (.int .i64 x.2.f.mn):=aA P2.out (i:=2) rfl
  have p3:W2.cell? ⟨b8,3,none⟩=some (.int .i64 x.2.f.mx):=aA P2.out (i:=3) rfl
  have p4:W2.cell? ⟨b8,4,none⟩=some (.slice x.2.f.rq x.2.f.rs.length x.2.f.rc):=aA P2.out (i:=4) rfl
  have p5:W2.cell? ⟨b8,5,none⟩=some (.slice x.2.f.kq x.2.f.kl x.2.f.kc):=aA P2.out (i:=5) rfl
  have p6:W2.cell? ⟨b8,6,none⟩=some (.int .i64 ((x.1.length:Int)+1)):=aA P2.out (i:=6) rfl
  have p7:W2.cell? ⟨b8,7,none⟩=some (.int .i64 (arP x.1)):=aA P2.out (i:=7) rfl
  have p8:W2.cell? ⟨b8,8,none⟩=some (.bool (fiP x.1)):=aA P2.out (i:=8) rfl
  have p9:W2.cell? ⟨b8,9,none⟩=some (.bool (laP x.1)):=aA P2.out (i:=9) rfl
  have p10:W2.cell? ⟨b8,10,none⟩=some (.bool (brP x.1)):=aA P2.out (i:=10) rfl
  have p11:W2.cell? ⟨b8,11,none⟩=some (.int .i64 (o:Int)):=aA P2.out (i:=11) rfl
  have m0:W2.cell? ⟨bm,0,none⟩=some (.bool c):=aA M2.out (i:=0) rfl
  have m1:W2.cell? ⟨bm,1,none⟩=some (.bool f):=aA M2.out (i:=1) rfl
  by_cases h2000:j=2000
  ·have e1:(2000:Int)<=(j:Int):=by omega
   have HD:=aB (show R=42 from HST.out 42 (by unfold bN;rw [if_pos h2000]) (by decide))
   clear h2000
   go_wp2
   go_ret
   exact⟨congrArg (fun z=>Ending.returned (.int .i64 z)) HD.out.symm,B2.out⟩
  have e1:¬ (2000:Int)<=(j:Int):=by omega
  have hj3:j<2000:=by omega
  by_cases h40:40<x.1.length+1
  ·have e2:(40:Int)<(x.1.length:Int)+1:=by omega
   have HD:=aB (show R=43 from HST.out 43 (by unfold bN;rw [if_neg h2000,if_pos h40]) (by decide))
   clear h2000 h40
   go_wp2
   go_ret
   exact⟨congrArg (fun z=>Ending.returned (.int .i64 z)) HD.out.symm,B2.out⟩
  have e2:¬ (40:Int)<(x.1.length:Int)+1:=by omega
  have FM:=aB (aH3 x.1 x.2 o c f A2.out HSL.out)
  have HL:=aB (show bN c f x.1 x.2 j gr=_ by rw [aB0 HBR.out,if_neg h2000,if_neg h40])
  clear h2000 h40
  go_upto_region 13 with (go_at_call 20;(with_reducible refine(FM.out).mono ?_);rintro e W3 ⟨b3,rfl,hb3,h3⟩;have I3:=aB hb3;have B3:=aB h3;clear hb3 h3)
  have K3:=aB (aF K2.out B3.out lz9)
  have BZ:=aB (aF B2.out B3.out lz9)
  have P3:=aB ((B3.out.block _ (aC P2.out)).trans P2.out)
  clear m0 m1 p0 p1 p2 p3 p4 p5 p6 p7 p8 p9 p10 p11 FM e2
  have p0:W3.cell? ⟨b8,0,none⟩=some (.int .i64 x.2.f.k):=aA P3.out (i:=0) rfl
  have p1:W3.cell? ⟨b8,1,none⟩=some (.int .i64 x.2.f.n):=aA P3.out (i:=1) rfl
  cases b3 with
  | false=>
   have HD:=aB (show R=50 from HST.out 50 (by rw [HL.out,if_pos (fun z=>by cases I3.out.2 z.1)]) (by decide))
   go_wp2
   go_ret
   exact⟨congrArg (fun z=>Ending.returned (.int .i64 z)) HD.out.symm,BZ.out⟩
  | true=>
   have HF:=aB (I3.out.1 rfl)
   by_cases h7:x.2.f.k=7
   ·have e7:(x.2.f.k==7)=true:=beq_iff_eq.2 h7
    have e8:(x.2.f.k==8)=false:=a8.2 (by omega)
    have H7:=aB h7
    clear h7
    by_cases hn:x.2.f.n=(gr:Int)+1
    case neg=>
     have en:(x.2.f.n != (gr:Int)+1)=true:=bne_iff_ne.2 hn
     have HD:=aB (show R=50 from HST.out 50 (by rw [HL.out,if_pos (fun z=>hn (z.2 H7.out))]) (by decide))
     clear hn
     go_wp2
     go_ret
     exact⟨congrArg (fun z=>Ending.returned (.int .i64 z)) HD.out.symm,BZ.out⟩
    have en:(x.2.f.n != (gr:Int)+1)=false:=by simpa using hn
    have HN:=aB hn
    clear hn
    have R3:=aB (aK HS.out.row (Fr.of_below (S:=fun _=>False) K3.out) (fun _ _ z=>z))
    have S3:=aB (show w5.heap.size<=W3.heap.size from j4 HS.out.bel.size K3.out.size)
    obtain⟨t0,hi,hz0,hz1,hz2⟩:=aW qP
    generalize hgp:fB ((fC 0 ((pp [] t).take j)).map Int.ofNat)=GP at R3
    have HGP:=aB hgp
    clear hgp
    go_upto_region 18 with (at_builtin;refine wpList_append_own_at _ rfl _ _ 35 rfl w5.heap.size 3 t0 (.int .i64 0) 1 8 qM hi hz0 hz1 hz2 rfl (by decide) (.slice q gr ca) gr GP rfl (o8 R3.out (.cells #[.int .i64 (j:Int)] 3)) ⟨W3.heap.size,0,none⟩ 1 1 [.int .i64 (j:Int)] rfl rfl (aU6 _ _ _) (by simp [Value.oneCell']) (by unfold maxLen;omega) (by omega) (by have:=S3.out;simp;omega) ?_;intro v' w6 hown' hgrow _ hblk;obtain⟨g6,cap6,rfl⟩:=aN hown' (_root_.Go.Proofs.YtlamifbjklpdbaaGreat.u4 _);have O6:=aB hown';have G6:=aB hgrow;clear hown' hgrow hblk)
    have L6:=aB (show Below w5.heap.size w5 w6 from aX (aF HS.out.bel K3.out lz9) (((Fr.refl (fun z=>(Value.slice q gr ca).ownBlock=some z) W3).alloc (.cells #[.int .i64 (j:Int)] 3)).grown G6.out (fun z hz=>hz)) lz9 (fun z hz=>(aG R3.out hz).1))
    have P6:=aB (show w6.heap[b8]?=some (.cells #[.int .i64 x.2.f.k,.int .i64 x.2.f.n,.int .i64 x.2.f.mn,.int .i64 x.2.f.mx,.slice x.2.f.rq x.2.f.rs.length x.2.f.rc,.slice x.2.f.kq x.2.f.kl x.2.f.kc,.int .i64 ((x.1.length:Int)+1),.int .i64 (arP x.1),.bool (fiP x.1),.bool (laP x.1),.bool (brP x.1),.int .i64 (o:Int)] 56 (0,0)) from (G6.out.block _ (by simp;have:=aC P3.out;omega) (fun e=>HNB.out e.symm)).trans ((Below.heap_alloc _ _ _ (aC P3.out)).trans P3.out))
    have p0':w6.cell? ⟨b8,0,none⟩=some (.int .i64 x.2.f.k):=aA P6.out (i:=0) rfl
    clear p0 p1
    by_cases h30:30<gr+1
    ·have e3:(30:Int)<(gr:Int)+1:=by omega
     have HD:=aB (show R=42 from HST.out 42 (by rw [HL.out,if_neg (fun z=>z ⟨HF.out,fun _=>HN.out⟩),if_pos ⟨H7.out,by rw [HN.out];exact e3⟩]) (by decide))
     have BX:=aB (aF B6.out L6.out lz9)
     clear h30
     go_wp2
     go_ret
     exact⟨congrArg (fun z=>Ending.returned (.int .i64 z)) HD.out.symm,BX.out⟩
    have e3:¬ (30:Int)<(gr:Int)+1:=by omega
    have HD:=aB (show bN c f x.1 x.2 j gr=0 by rw [HL.out,if_neg (fun z=>z ⟨HF.out,fun _=>HN.out⟩),if_neg (fun z=>e3 (by have:=z.2;rw [HN.out] at this;exact this)),if_neg (fun z=>by have:=z.1;rw [H7.out] at this;cases this)])
    clear h30
    go_wp2
    go_roundw
    case rel=>exact⟨j+1,gr+1,_,_,by omega,by go_num,rfl,by go_num,HS.out.group HX.out hj3 HD.out H7.out (by rw [HGP.out];exact O6.out) L6.out⟩
    case measure=>simp only [intOf];omega
   have e7:(x.2.f.k==7)=false:=a8.2 h7
   by_cases h8:x.2.f.k=8
   case neg=>
    have e8:(x.2.f.k==8)=false:=a8.2 h8
    have HD:=aB (show bN c f x.1 x.2 j gr=0 by rw [HL.out,if_neg (fun z=>z ⟨HF.out,fun q=>absurd q h7⟩),if_neg (fun z=>h7 z.1),if_neg (fun z=>h8 z.1)])
    have H7:=aB h7
    clear h7 h8
    go_wp2
    go_roundw
    case rel=>exact⟨j+1,gr,_,_,by omega,by go_num,rfl,rfl,HS.out.next HX.out hj3 HD.out H7.out K3.out⟩
    case measure=>simp only [intOf];omega
   have e8:(x.2.f.k==8)=true:=beq_iff_eq.2 h8
   have HL8:=aB (show bN c f x.1 x.2 j gr=_ by rw [HL.out,if_neg (fun z=>z ⟨HF.out,fun q=>absurd q h7⟩),if_neg (fun z=>h7 z.1)])
   have hn1:1<=x.2.f.n:=by
    have:=HF.out.2
    unfold eM at this
    rw [if_neg (by omega),if_neg (by omega),if_neg (by omega),if_neg (by omega),if_pos h8] at this
    exact this.1.1
   have H7:=aB h7
   have H8:=aB h8
   clear h7 h8 HL
   by_cases hg:x.2.f.n<=(gr:Int)
   case neg=>
    have eg:(gr:Int)<x.2.f.n:=by omega
    have HD:=aB (show R=41 from HST.out 41 (by rw [HL8.out,if_pos ⟨H8.out,fun z=>hg z.2⟩]) (by decide))
    clear hg hn1
    go_wp2
    go_ret
    exact⟨congrArg (fun z=>Ending.returned (.int .i64 z)) HD.out.symm,BZ.out⟩
   have eg:¬ (gr:Int)<x.2.f.n:=by omega
   obtain⟨N,hN⟩:∃ N:Nat,x.2.f.n=(N:Int)+1:=⟨(x.2.f.n-1).toNat,by omega⟩
   have HN:=aB hN
   have hNg:N<gr:=by omega
   have p1':W3.cell? ⟨b8,1,none⟩=some (.int .i64 ((N:Int)+1)):=by rw [<- hN];exact p1
   have eg':¬ (gr:Int)<(N:Int)+1:=by omega
   have hnn:x.2.f.n<=(gr:Int):=hg
   have HNN:=aB hnn
   clear p1 eg hg hn1 hN hnn
   obtain⟨jj,hjj,y,hy,hjj2,hiff⟩:=HS.out.back HX.out hj3 hNg
   have R3:=aK HS.out.row (Fr.of_below (S:=fun _=>False) K3.out) (fun _ _ z=>z)
   obtain⟨gb,cb,hqb⟩:=aN R3 (by omega)
   injection hqb with hqb1 _ hqb2
   subst hqb1 hqb2
   have a0:W3.cell? ⟨gb,N,none⟩=some (.int .i64 (jj:Int)):=by
    have:=bM R3 (j:=N) (u:=.int .i64 (jj:Int)) (aB4 (by rw [t8,hjj];rfl))
    exact this
   obtain⟨zz,hzz⟩:∃ zz,Z[jj]?=some zz:=⟨_,b7 (by omega)⟩
   have hyz:zz.1=y:=by
    have h1:(pp [] t)[jj]?=some zz.1:=pA (j:=2001) (by rw [<- HZM.out,t8,hzz];rfl)
    rw [hy] at h1
    exact(Option.some.inj h1).symm
   have hto:=HTO.out jj zz hzz
   rw [hyz] at hto
   rw [<- hto] at hiff
   have Y3:ZR W1.heap.size W3 (.slice (some ⟨ga,0,none⟩) Z.length k5) Z:=aK HYA.out (Fr.of_below (S:=fun _=>False) K3.out) (fun _ _ z=>z)
   have a1:W3.cell? ⟨ga,jj*12+11,none⟩=some (.int .i64 (zz.2:Int)):=Y3.cells hzz (j:=11) rfl
   generalize zz.2=tt at a1 hto hiff
   have lgb:gb<W3.heap.size:=(aG R3 (g:=gb) rfl).2.1
   have HIF:=aB hiff
   have hjz:jj<Z.length:=by omega
   clear R3 Y3 hjj hy hzz hyz hto hiff
   by_cases hto:tt<=j
   ·have et:¬ (j:Int)<(tt:Int):=by omega
    have HD:=aB (show bN c f x.1 x.2 j gr=0 by rw [HL8.out,if_neg (fun z=>z.2 ⟨by rw [HN.out];exact HIF.out.2 hto,HNN.out⟩)])
    clear hto
    go_wp2
    go_roundw
    case rel=>exact⟨j+1,gr,_,_,by omega,by go_num,rfl,rfl,HS.out.next HX.out hj3 HD.out H7.out K3.out⟩
    case measure=>simp only [intOf];omega
   ·have et:(j:Int)<(tt:Int):=by omega
    have HD:=aB (show R=41 from HST.out 41 (by rw [HL8.out,if_pos ⟨H8.out,fun z=>hto (HIF.out.1 (by rw [<- HN.out];exact z.1))⟩]) (by decide))
    clear hto
    go_wp2
    go_ret
    exact⟨congrArg (fun z=>Ending.returned (.int .i64 z)) HD.out.symm,BZ.out⟩
end
section
attribute [local go_sem] Oper.semAt_some bU
def Sm(t:Tr):Prop:=∀ x∈pp [] t,x.2.f.rs.length<=1048580
theorem wF{w:World}{t:Tr}(c o:Bool)(hta:TB w t)(hsm:Sm t):Calls Tryz.prog 24 #[.agg #[.int .i64 t.f.k,.int .i64 t.f.n,.int .i64 t.f.mn,.int .i64 t.f.mx,.slice t.f.rq t.f.rs.length t.f.rc,.slice t.f.kq t.f.kl t.f.kc],.agg #[.bool c,.bool o]] w fun e w'=>e=.returned (.bool (decide (aV c o 0 0 (pp [] t)=0)))/\Below w.heap.size w w':=by
 have B1:Hid (Below w.heap.size w ((w.alloc (.cells #[.int .i64 t.f.k,.int .i64 t.f.n,.int .i64 t.f.mn,.int .i64 t.f.mx,.slice t.f.rq t.f.rs.length t.f.rc,.slice t.f.kq t.f.kl t.f.kc] 25)).alloc (.cells #[.bool c,.bool o] 27))):=(bz9).alloc (by simp) _
 have X1:Hid (BoxN ((w.alloc (.cells #[.int .i64 t.f.k,.int .i64 t.f.n,.int .i64 t.f.mn,.int .i64 t.f.mx,.slice t.f.rq t.f.rs.length t.f.rc,.slice t.f.kq t.f.kl t.f.kc] 25)).alloc (.cells #[.bool c,.bool o] 27)) w.heap.size t.f):=(Below.heap_alloc _ _ _ (by simp)).trans (aD w _)
 have X2:Hid (((w.alloc (.cells #[.int .i64 t.f.k,.int .i64 t.f.n,.int .i64 t.f.mn,.int .i64 t.f.mx,.slice t.f.rq t.f.rs.length t.f.rc,.slice t.f.kq t.f.kl t.f.kc] 25)).alloc (.cells #[.bool c,.bool o] 27)).heap[w.heap.size+1]?=some (.cells #[.bool c,.bool o] 27 (0,0))):=lG _ (by simp only [m8])
 have HTA:=aB hta
 have HSM:=aB hsm
 clear hta hsm
 go_enter Tryz.func24,Tryz.ntmps24
 go_upto_region 1 with fail
 generalize ((w.alloc (.cells #[.int .i64 t.f.k,.int .i64 t.f.n,.int .i64 t.f.mn,.int .i64 t.f.mx,.slice t.f.rq t.f.rs.length t.f.rc,.slice t.f.kq t.f.kl t.f.kc] 25)).alloc (.cells #[.bool c,.bool o] 27))=w1 at B1 X1 X2 ⊢
 obtain⟨n0,n1,n2,n3,n4,n5⟩:=X1.out.six
 simp only [a7] at n1 n2 n3 n4 n5
 have a0:=aA X2.out (i:=0) rfl
 have a1:=aA X2.out (i:=1) rfl
 have RT:=aB (pK c o (HTA.out.kept B1.out) HSM.out)
 obtain⟨r,hr⟩:∃ r,aV c o 0 0 (pp [] t)=r:=⟨_,rfl⟩
 have HR:=aB hr
 rw [hr] at RT
 clear hr
 go_wp2_with (go_at_call 6;refine(RT.out).mono ?_;rintro e w2 ⟨rfl,h2⟩;have B2:=aB (aF B1.out h2 lz9);clear h2)
 go_ret
 refine⟨?_,B2.out⟩
 rw [HR.out]
 by_cases h:r=0
 ·subst h;rfl
 ·have h1:(r==0)=false:=by simpa using h
  simp [h,h1]
end
section
attribute [local go_sem] Oper.semAt_some bU
def sG(c:Bool)(t:Tr):Int:=evG (gH c) (fun _=>0) t
theorem gE(c:Bool)(t:Tr):sG c t=min (eJ c t.f (t.ks.map (sG c))) 10001:=by
 have:=aS7 (ρ:=gH c) (fun _=>0) t
 rw [aC6] at this
 exact this
theorem uK(c o:Bool):∀ (m:Nat) (t:Tr),t.sz<=m->t.sz<=2000->bG (NP c o) t->iG (sG c t)
 | 0,t,h,_,_=>absurd h (by have:=dM t;omega)
 | m+1,t,h,h2,hev=>by
  have hx:∀ x∈t.ks.map (sG c),iG x:=fun x hx=>by
   obtain⟨u,hu,rfl⟩:=m9.1 hx
   exact uK c o m u (by have:=bW hu;omega) (by have:=bW hu;omega) (cH hev hu)
  have:=vW t (t.ks.map (sG c)) (fun _=>0) ((aL t).1 hev).1 (by simp) hx (fun _=>⟨by omega,by omega⟩)
  rw [gE]
  exact this
theorem yL{l:List Tr}{p:Tr->Int}{j:Nat}{x:Tr}(hx:l[j]?=some x):((l.take (j+1)).map p).sum=((l.take j).map p).sum+p x:=by
 rw [o7,hx,Option.toList_some,o4,List.sum_append]
 simp
theorem aM5(c:Bool):∀ (m:Nat) (t:Tr),t.sz<=m->∀ g,(ev (gH c) g t).1=sG c t
 | 0,t,h=>absurd h (by have:=dM t;omega)
 | m+1,t,h=>fun g=>by
  have hs:∀ (ks:List Tr),(∀ u∈ks,∀ g,(ev (gH c) g u).1=sG c u)->∀ g,(evs (gH c) g ks).1=ks.map (sG c):=fun ks=>by
   induction ks with
   | nil=>intro _ g;rw [aJ9];rfl
   | cons u ks ih=>
    intro h g
    rw [aC4,l8,h u (by simp) g]
    simp only
    rw [ih (fun v hv=>h v (by simp [hv]))]
  rw [aS6,gE,hs t.ks (fun u hu=>aM5 c m u (by have:=bW hu;omega))]
  rfl
theorem sO(c o:Bool)(t:Tr):tvI (gH c) c o t=if aV c o 0 0 (pp [] t)=0 then sG c t else 0:=by
 unfold tvI
 rw [aM5 c t.sz t lz9]
def wN(c:Bool)(l:List (Int×Int)):Int:=if c then wide l else 0
def nN(c:Bool)(l:List (Int×Int)):Int:=if c then bS l else if l.length=0 then 0 else 1
def hiN(c:Bool)(r:Int×Int):Bool:=c&&decide (127<r.2)
theorem aE9(c:Bool)(l:List (Int×Int))(r:Int×Int):wN c (l++[r])=if hiN c r then wN c l+16 else wN c l:=by
 unfold wN wide hiN
 cases c
 ·simp
 ·by_cases h:127<r.2 <;> simp [h,List.filter_append];omega
theorem aI6(c:Bool)(l:List (Int×Int))(r:Int×Int):nN c (l++[r])=if hiN c r then nN c l else 1:=by
 unfold nN bS hiN
 cases c
 ·simp
 ·by_cases h:127<r.2
  ·have h2:decide (r.2<=127)=false:=by simp;omega
   have h3:decide (127<r.2)=true:=by simpa using h
   simp only [if_true,Bool.true_and,h3,List.any_append,aAI,List.any_nil,h2,Bool.or_false]
  ·have:r.2<=127:=by omega
   simp [h,this]
theorem aT6(c:Bool)(l:List (Int×Int)):0<=wN c l/\wN c l<=16*(l.length:Int):=by
 unfold wN wide
 cases c
 ·simp;omega
 ·have:=List.length_filter_le (fun r:Int×Int=>decide (127<r.2)) l
  simp only [if_true]
  omega
theorem aU7(c:Bool)(l:List (Int×Int)):0<=nN c l/\nN c l<=1:=by
 unfold nN bS
 repeat' split
 all_goals omega
theorem aG3(c:Bool)(l:List (Int×Int)):max (wN c l+nN c l) 1=dZ c l:=by
 unfold wN nN dZ
 cases c
 ·simp only [Bool.false_eq_true,if_false];split <;> omega
 ·rfl
def Bx2(w V:World)(f:Fl)(c o:Bool):Prop:=Below w.heap.size w V/\BoxN V w.heap.size f/\V.heap[w.heap.size+1]?=some (.cells #[.bool c,.bool o] 27 (0,0))
theorem Bx2.kept{w V V':World}{f:Fl}{c o:Bool}(h:Bx2 w V f c o)(hb:Below V.heap.size V V'):Bx2 w V' f c o:=⟨aF h.1 hb lz9,(hb.block _ (aC h.2.1)).trans h.2.1,(hb.block _ (aC h.2.2)).trans h.2.2⟩
theorem vH(c o:Bool):∀ (m:Nat) (t:Tr) (w:World),t.sz<=m->t.sz<=2000->TB w t->bG (NP c o) t->Calls Tryz.prog 25 #[.agg #[.int .i64 t.f.k,.int .i64 t.f.n,.int .i64 t.f.mn,.int .i64 t.f.mx,.slice t.f.rq t.f.rs.length t.f.rc,.slice t.f.kq t.f.kl t.f.kc],.agg #[.bool c,.bool o]] w fun e w'=>e=.returned (.int .i64 (sG c t))/\Below w.heap.size w w'
 | 0,t,_,h,_,_,_=>absurd h (by have:=dM t;omega)
 | m+1,t,w,hm,hsz,hta,hev=>by
  have IH:Hid (∀ (u:Tr) (W:World),u∈t.ks->Below w.heap.size w W->Calls Tryz.prog 25 #[.agg #[.int .i64 u.f.k,.int .i64 u.f.n,.int .i64 u.f.mn,.int .i64 u.f.mx,.slice u.f.rq u.f.rs.length u.f.rc,.slice u.f.kq u.f.kl u.f.kc],.agg #[.bool c,.bool o]] W fun e w'=>e=.returned (.int .i64 (sG c u))/\Below W.heap.size W w'):=fun u W hu hW=>vH c o m u W (by have:=bW hu;omega) (by have:=bW hu;omega) ((hta.kept hW).kid hu) (cH hev hu)
  have GD:Hid (∀ u∈t.ks,iG (sG c u)):=fun u hu=>uK c o m u (by have:=bW hu;omega) (by have:=bW hu;omega) (cH hev hu)
  have hnp:NP c o t:=((aL t).1 hev).1
  have hnb:=hta.node
  have HNB:=aB hnb
  have HKL:=aB hnb.kl
  have HLN:Hid (t.ks.length<=2000):=by have h1:=uG t.ks;have h2:=dY t;exact aB (by omega)
  obtain⟨q1,cap1,eq1,-,-,hk3⟩:=hnb.k.slice
  injection eq1 with eq1 eq2 eq3
  subst eq1 eq3
  have HK3:=aB hk3
  have SM:Hid (∀ j,0<=((t.ks.take j).map (sG c)).sum/\((t.ks.take j).map (sG c)).sum<=20002000):=fun j=>by
   have h1:=yM (l:=(t.ks.take j).map (sG c)) (fun x hx=>by
    obtain⟨u,hu,rfl⟩:=m9.1 hx
    exact GD.out u (aAG hu))
   have h2:((t.ks.take j).map (sG c)).length<=2000:=by rw [r7,o9];have:=HLN.out;omega
   omega
  have X1:Hid (Bx2 w ((w.alloc (.cells #[.int .i64 t.f.k,.int .i64 t.f.n,.int .i64 t.f.mn,.int .i64 t.f.mx,.slice t.f.rq t.f.rs.length t.f.rc,.slice t.f.kq t.f.kl t.f.kc] 25)).alloc (.cells #[.bool c,.bool o] 27)) t.f c o):=⟨(bz9).alloc (by simp) _,(Below.heap_alloc _ _ _ (by simp)).trans (aD w _),lG _ (by simp only [m8])⟩
  clear hta hev hnb hm hk3 eq2 hsz
  go_enter Tryz.func25,Tryz.ntmps25
  go_upto_region 3 with fail
  generalize hV:(w.alloc (.cells #[.int .i64 t.f.k,.int .i64 t.f.n,.int .i64 t.f.mn,.int .i64 t.f.mx,.slice t.f.rq t.f.rs.length t.f.rc,.slice t.f.kq t.f.kl t.f.kc] 25)).alloc (.cells #[.bool c,.bool o] 27)=V at X1 ⊢
  clear hV
  go_loopw [5,6] (fun s i wr=>∃ j:Nat,j<=t.ks.length/\s=.int .i64 ((t.ks.take j).map (sG c)).sum/\i=.int .i64 (j:Int)/\Bx2 w wr t.f c o) (fun _ i _=>t.ks.length-(intOf i).toNat)
  case atStart=>exact⟨0,m7 _,rfl,rfl,X1.out⟩
  case round=>
   obtain⟨j,hj,rfl,rfl,hx⟩:=hrel
   have XW:=aB hx
   clear hx
   have hln:=HLN.out
   obtain⟨S,hS⟩:∃ S,((t.ks.take j).map (sG c)).sum=S:=⟨_,rfl⟩
   have hS1:=SM.out j
   rw [hS] at hS1 ⊢
   have HS:=aB hS
   clear hS
   obtain⟨n0,n1,n2,n3,n4,n5⟩:=XW.out.2.1.six
   simp only [a7] at n1 n2 n3 n4 n5
   have a0:=aA XW.out.2.2 (i:=0) rfl
   have a1:=aA XW.out.2.2 (i:=1) rfl
   by_cases hjl:j<t.ks.length
   ·obtain⟨u,hu⟩:∃ u,t.ks[j]?=some u:=⟨_,b7 hjl⟩
    have hi:(j:Int)<(t.f.kl:Int):=by rw [HKL.out];omega
    have DN:=aB (yL (p:=sG c) hu)
    have hin:=i5 hu
    have hg:=GD.out u hin
    obtain⟨X,hX⟩:∃ X,sG c u=X:=⟨_,rfl⟩
    have CU:Hid (∀ W,Below wr.heap.size wr W->Calls Tryz.prog 25 #[.agg #[.int .i64 u.f.k,.int .i64 u.f.n,.int .i64 u.f.mn,.int .i64 u.f.mx,.slice u.f.rq u.f.rs.length u.f.rc,.slice u.f.kq u.f.kl u.f.kc],.agg #[.bool c,.bool o]] W fun e w'=>e=.returned (.int .i64 X)/\Below W.heap.size W w'):=fun W hW=>by
     have:=IH.out u W hin (aF XW.out.1 hW lz9)
     rw [hX] at this
     exact this
    rw [hX] at DN hg
    rw [HS.out] at DN
    unfold iG at hg
    obtain⟨gq,off,hq,hgl,six⟩:=HK3.out j u hu
    rw [hq] at n5
    clear hq
    obtain⟨c0,c1,c2,c3,c4,c5⟩:=six.ck (CK.of_below XW.out.1) hgl
    have l0:w.heap.size<wr.heap.size:=aC XW.out.2.1
    have l1:w.heap.size+1<wr.heap.size:=aC XW.out.2.2
    have l2:gq<wr.heap.size:=by omega
    have w1:wrap64 (S+X)=S+X:=by unfold wrap64;omega
    have w2:IntKind.wrap .i64 (S+X)=S+X:=by rw [IntKind.wrap_i64];omega
    clear hu six hX
    go_upto_region 5 with fail
    refine wx9 ?_
    repeat (go_big_quiet_step (first | exact rfl |(go_at_call 25;exact dH (CU.out _ (cP _)))))
    refine wpQuiet_nil ?_
    intro w3 hw
    have X3:=aB (XW.out.kept (aS hw))
    clear hw
    go_wp2
    go_roundw
    case rel=>exact⟨j+1,by omega,by rw [DN.out],by go_num,X3.out⟩
    case measure=>simp only [intOf];omega
   ·have hi:¬ (j:Int)<(t.f.kl:Int):=by rw [HKL.out];omega
    have HSE:Hid ((t.ks.map (sG c)).sum=S):=by have:=HS.out;rw [j5 (by omega)] at this;exact aB this
    have HKI:(t.f.kl:Int)=(t.ks.length:Int):=by rw [HKL.out]
    have hv0:=aB (gE c t)
    clear HS
    rcases aA4 hnp with hk | hk | hk | hk | hk | hk | hk | hk | hk
    ·have hv:Hid (sG c t=1):=aB (by rw [hv0.out,show eJ c t.f (t.ks.map (sG c))=1 by unfold eJ;rw [hk];simp];decide)
     have e2:(t.f.k==2)=false:=by rw [hk];rfl
     have e5:(t.f.k==5)=false:=by rw [hk];rfl
     have e6:(t.f.k==6)=false:=by rw [hk];rfl
     have e7:(t.f.k==7)=false:=by rw [hk];rfl
     have e9:(t.f.k==9)=false:=by rw [hk];rfl
     clear hk hnp
     go_wp2
     go_ret
     exact⟨by rw [hv.out];rfl,XW.out.1⟩
    ·have hset:=aQ8 hnp hk
     have hk0:t.ks.length=0:=by have:=hnp.1;unfold eM at this;rw [hk] at this;simp at this;simp [this.2.2.2.2]
     have hS0:S=0:=by rw [<- HSE.out,List.length_eq_zero_iff.1 hk0];rfl
     subst hS0
     have hrl:=kI hset.1
     have hv:Hid (sG c t=min (max (wN c t.f.rs+nN c t.f.rs) 1) 10001):=aB (by rw [hv0.out,aG3];unfold eJ;rw [hk];rfl)
     have HRL:=aB hrl
     have e2:(t.f.k==2)=true:=by rw [hk];rfl
     have e5:(t.f.k==5)=false:=by rw [hk];rfl
     have e6:(t.f.k==6)=false:=by rw [hk];rfl
     have e7:(t.f.k==7)=false:=by rw [hk];rfl
     have e9:(t.f.k==9)=false:=by rw [hk];rfl
     clear hk hnp HKI hset hk0 hrl
     go_upto_region 21 with fail
     clear n0 n1 n2 n3 n4 n5 a0 a1
     go_loopw [5,8,9] (fun s l i wr=>∃ j:Nat,j<=t.f.rs.length/\s=.int .i64 (wN c (t.f.rs.take j))/\l=.int .i64 (nN c (t.f.rs.take j))/\i=.int .i64 (j:Int)/\Bx2 w wr t.f c o) (fun _ _ i _=>t.f.rs.length-(intOf i).toNat)
     case atStart=>exact⟨0,m7 _,by cases c <;> rfl,by cases c <;> rfl,rfl,XW.out⟩
     case round=>
      obtain⟨k,hkj,rfl,rfl,rfl,hx2⟩:=hrel
      have XV:=aB hx2
      clear hx2
      have hrl:=HRL.out
      obtain⟨A,hA⟩:∃ A,wN c (t.f.rs.take k)=A:=⟨_,rfl⟩
      obtain⟨N,hN⟩:∃ N,nN c (t.f.rs.take k)=N:=⟨_,rfl⟩
      have hA1:=aT6 c (t.f.rs.take k)
      have hN1:=aU7 c (t.f.rs.take k)
      have hlt:((t.f.rs.take k).length:Int)<=600000:=by rw [o9];omega
      rw [hA] at hA1 ⊢
      rw [hN] at hN1 ⊢
      have HA:=aB hA
      have HN:=aB hN
      clear hA hN
      obtain⟨n0,n1,n2,n3,n4,n5⟩:=XV.out.2.1.six
      simp only [a7] at n1 n2 n3 n4 n5
      have a0:=aA XV.out.2.2 (i:=0) rfl
      have a1:=aA XV.out.2.2 (i:=1) rfl
      by_cases hkl:k<t.f.rs.length
      ·obtain⟨⟨ra,rb⟩,hr⟩:∃ r,t.f.rs[k]?=some r:=⟨_,b7 hkl⟩
       have hi2:(k:Int)<(t.f.rs.length:Int):=by omega
       have ht1:t.f.rs.take (k+1)=t.f.rs.take k++[(ra,rb)]:=by rw [o7,hr];rfl
       have D1:=aB (show wN c (t.f.rs.take (k+1))=if hiN c (ra,rb) then A+16 else A by rw [ht1,aE9,HA.out])
       have D2:=aB (show nN c (t.f.rs.take (k+1))=if hiN c (ra,rb) then N else 1 by rw [ht1,aI6,HN.out])
       have HAR:=aB (HNB.out.r.kept XV.out.1)
       obtain⟨q2,cap2,eq2,-,-,hcell⟩:=HAR.out.slice
       injection eq2 with eq2 eq3 eq4
       subst eq2 eq4
       obtain⟨gr,off,hq,hgr,r0,r1⟩:=hcell k _ hr
       rw [_root_.Go.Proofs.YtlamifbjklpdbaaGreat.u0] at r0 r1
       simp only at r0 r1
       rw [hq] at n4
       have w1:wrap64 (A+16)=A+16:=by unfold wrap64;omega
       have w2:IntKind.wrap .i64 (A+16)=A+16:=by rw [IntKind.wrap_i64];omega
       clear hq hcell hr eq3 ht1
       cases c with
       | false=>
        rw [show hiN false (ra,rb)=false from rfl] at D1 D2
        simp only [Bool.false_eq_true,if_false] at D1 D2
        go_wp2
        go_roundw
        case rel=>exact⟨k+1,by omega,by rw [D1.out],by rw [D2.out],by go_num,XV.out⟩
        case measure=>simp only [intOf];omega
       | true=>
        by_cases hh:127<rb
        ·have hd:decide (127<rb)=true:=by simpa using hh
         rw [show hiN true (ra,rb)=true by unfold hiN;rw [hd];rfl,if_pos rfl] at D1 D2
         go_wp2
         go_roundw
         case rel=>exact⟨k+1,by omega,by rw [D1.out],by rw [D2.out],by go_num,XV.out⟩
         case measure=>simp only [intOf];omega
        ·have hd:decide (127<rb)=false:=by simpa using hh
         rw [show hiN true (ra,rb)=false by unfold hiN;rw [hd];rfl] at D1 D2
         simp only [Bool.false_eq_true,if_false] at D1 D2
         go_wp2
         go_roundw
         case rel=>exact⟨k+1,by omega,by rw [D1.out],by rw [D2.out],by go_num,XV.out⟩
         case measure=>simp only [intOf];omega
      ·have hi2:¬ (k:Int)<(t.f.rs.length:Int):=by omega
       have hv2:Hid (sG c t=min (max (A+N) 1) 10001):=by
        have h1:=HA.out
        have h2:=HN.out
        rw [j5 (by omega)] at h1 h2
        exact aB (by rw [hv.out,h1,h2])
       have w1:wrap64 (A+N)=A+N:=by unfold wrap64;omega
       have w2:IntKind.wrap .i64 (A+N)=A+N:=by rw [IntKind.wrap_i64];omega
       go_wp2
       go_ret
       exact⟨by rw [hv2.out];rfl,XV.out.1⟩
    ·have hv:Hid (sG c t=1):=aB (by rw [hv0.out,show eJ c t.f (t.ks.map (sG c))=1 by unfold eJ;rw [hk];simp];decide)
     have e2:(t.f.k==2)=false:=by rw [hk];rfl
     have e5:(t.f.k==5)=false:=by rw [hk];rfl
     have e6:(t.f.k==6)=false:=by rw [hk];rfl
     have e7:(t.f.k==7)=false:=by rw [hk];rfl
     have e9:(t.f.k==9)=false:=by rw [hk];rfl
     clear hk hnp
     go_wp2
     go_ret
     exact⟨by rw [hv.out];rfl,XW.out.1⟩
    ·have hv:Hid (sG c t=1):=aB (by rw [hv0.out,show eJ c t.f (t.ks.map (sG c))=1 by unfold eJ;rw [hk];simp];decide)
     have e2:(t.f.k==2)=false:=by rw [hk];rfl
     have e5:(t.f.k==5)=false:=by rw [hk];rfl
     have e6:(t.f.k==6)=false:=by rw [hk];rfl
     have e7:(t.f.k==7)=false:=by rw [hk];rfl
     have e9:(t.f.k==9)=false:=by rw [hk];rfl
     clear hk hnp
     go_wp2
     go_ret
     exact⟨by rw [hv.out];rfl,XW.out.1⟩
    ·have hv:Hid (sG c t=min (S+(t.f.kl:Int)) 10001):=aB (by rw [hv0.out];unfold eJ;rw [hk,HSE.out,r7,HKI,Int.add_comm];rfl)
     have e2:(t.f.k==2)=false:=by rw [hk];rfl
     have e5:(t.f.k==5)=true:=by rw [hk];rfl
     have e6:(t.f.k==6)=false:=by rw [hk];rfl
     have e7:(t.f.k==7)=false:=by rw [hk];rfl
     have e9:(t.f.k==9)=false:=by rw [hk];rfl
     have w1:wrap64 (S+(t.f.kl:Int))=S+(t.f.kl:Int):=by unfold wrap64;omega
     have w2:IntKind.wrap .i64 (S+(t.f.kl:Int))=S+(t.f.kl:Int):=by rw [IntKind.wrap_i64];omega
     clear hk hnp HKI
     go_wp2
     go_ret
     exact⟨by rw [hv.out];rfl,XW.out.1⟩
    ·have hv:Hid (sG c t=min (S+(t.f.kl:Int)) 10001):=aB (by rw [hv0.out];unfold eJ;rw [hk,HSE.out,r7,HKI,Int.add_comm];rfl)
     have e2:(t.f.k==2)=false:=by rw [hk];rfl
     have e5:(t.f.k==5)=false:=by rw [hk];rfl
     have e6:(t.f.k==6)=true:=by rw [hk];rfl
     have e7:(t.f.k==7)=false:=by rw [hk];rfl
     have e9:(t.f.k==9)=false:=by rw [hk];rfl
     have w1:wrap64 (S+(t.f.kl:Int))=S+(t.f.kl:Int):=by unfold wrap64;omega
     have w2:IntKind.wrap .i64 (S+(t.f.kl:Int))=S+(t.f.kl:Int):=by rw [IntKind.wrap_i64];omega
     clear hk hnp HKI
     go_wp2
     go_ret
     exact⟨by rw [hv.out];rfl,XW.out.1⟩
    ·have hone:=aA3 hnp (.inl hk)
     have hv:Hid (sG c t=min (S+2) 10001):=aB (by
      rw [hv0.out];unfold eJ;rw [hk,<- HSE.out]
      obtain⟨u,hu⟩:=List.length_eq_one_iff.1 hone
      rw [hu];simp)
     have e2:(t.f.k==2)=false:=by rw [hk];rfl
     have e5:(t.f.k==5)=false:=by rw [hk];rfl
     have e6:(t.f.k==6)=false:=by rw [hk];rfl
     have e7:(t.f.k==7)=true:=by rw [hk];rfl
     have e9:(t.f.k==9)=false:=by rw [hk];rfl
     have w1:wrap64 (S+2)=S+2:=by unfold wrap64;omega
     have w2:IntKind.wrap .i64 (S+2)=S+2:=by rw [IntKind.wrap_i64];omega
     clear hk hnp HKI
     go_wp2
     go_ret
     exact⟨by rw [hv.out];rfl,XW.out.1⟩
    ·have hv:Hid (sG c t=1):=aB (by rw [hv0.out,show eJ c t.f (t.ks.map (sG c))=1 by unfold eJ;rw [hk];simp];decide)
     have e2:(t.f.k==2)=false:=by rw [hk];rfl
     have e5:(t.f.k==5)=false:=by rw [hk];rfl
     have e6:(t.f.k==6)=false:=by rw [hk];rfl
     have e7:(t.f.k==7)=false:=by rw [hk];rfl
     have e9:(t.f.k==9)=false:=by rw [hk];rfl
     clear hk hnp
     go_wp2
     go_ret
     exact⟨by rw [hv.out];rfl,XW.out.1⟩
    ·have hone:=aA3 hnp (.inr hk)
     have hbd:=aA2 hnp hk
     have hb2:0<=t.f.mn/\t.f.mn<=255/\-1<=t.f.mx/\t.f.mx<=255:=by
      simp only [eW,Bool.and_eq_true,Bool.or_eq_true,_root_.Go.Proofs.YtlamifbjklpdbaaGreat.u6,beq_iff_eq] at hbd
      omega
     have hS9:S<=10001:=by
      rw [<- HSE.out]
      obtain⟨u,hu⟩:=List.length_eq_one_iff.1 hone
      rw [hu]
      have:=GD.out u (by rw [hu];simp)
      unfold iG at this
      simp
      omega
     have hv:Hid (sG c t=min ((S+2)*iJ t.f) 10001):=aB (by
      rw [hv0.out];unfold eJ;rw [hk,<- HSE.out]
      obtain⟨u,hu⟩:=List.length_eq_one_iff.1 hone
      rw [hu];simp)
     have e2:(t.f.k==2)=false:=by rw [hk];rfl
     have e5:(t.f.k==5)=false:=by rw [hk];rfl
     have e6:(t.f.k==6)=false:=by rw [hk];rfl
     have e7:(t.f.k==7)=false:=by rw [hk];rfl
     have e9:(t.f.k==9)=true:=by rw [hk];rfl
     clear hk hnp HKI hbd hone
     have w1:wrap64 (S+2)=S+2:=by unfold wrap64;omega
     have w2:IntKind.wrap .i64 (S+2)=S+2:=by rw [IntKind.wrap_i64];omega
     by_cases hmx:t.f.mx=-1
     ·have q9:(t.f.mx==-1)=true:=by rw [hmx];rfl
      have hv2:Hid (sG c t=min ((S+2)*max (t.f.mn+1) 1) 10001):=aB (by rw [hv.out];unfold iJ;rw [if_pos hmx,show max (t.f.mn+1) 1=t.f.mn+1 by omega])
      have w3:wrap64 (t.f.mn+1)=t.f.mn+1:=by unfold wrap64;omega
      have w4:IntKind.wrap .i64 (t.f.mn+1)=t.f.mn+1:=by rw [IntKind.wrap_i64];omega
      have hm1:0<=(S+2)*max (t.f.mn+1) 1:=Int.mul_nonneg (by omega) (by omega)
      have hm2:(S+2)*max (t.f.mn+1) 1<=10003*256:=Int.mul_le_mul (by omega) (by omega) (by omega) (by omega)
      have w5:wrap64 ((S+2)*max (t.f.mn+1) 1)=(S+2)*max (t.f.mn+1) 1:=by unfold wrap64;omega
      have w6:IntKind.wrap .i64 ((S+2)*max (t.f.mn+1) 1)=(S+2)*max (t.f.mn+1) 1:=by rw [IntKind.wrap_i64];omega
      clear hmx hm1 hm2
      go_wp2
      go_ret
      exact⟨by rw [hv2.out];rfl,XW.out.1⟩
     ·have q9:(t.f.mx==-1)=false:=by simpa using hmx
      have hv2:Hid (sG c t=min ((S+2)*max t.f.mx 1) 10001):=aB (by rw [hv.out];unfold iJ;rw [if_neg hmx])
      have hm1:0<=(S+2)*max t.f.mx 1:=Int.mul_nonneg (by omega) (by omega)
      have hm2:(S+2)*max t.f.mx 1<=10003*256:=Int.mul_le_mul (by omega) (by omega) (by omega) (by omega)
      have w5:wrap64 ((S+2)*max t.f.mx 1)=(S+2)*max t.f.mx 1:=by unfold wrap64;omega
      have w6:IntKind.wrap .i64 ((S+2)*max t.f.mx 1)=(S+2)*max t.f.mx 1:=by rw [IntKind.wrap_i64];omega
      clear hmx hm1 hm2
      go_wp2
      go_ret
      exact⟨by rw [hv2.out];rfl,XW.out.1⟩
end
end Go.Proofs.YtlamifbjklpdbaaGreat
