/- A text in quotation marks. -/
import Derived.Test.YtlmefgjhbohjlaaGreatDoorJChar
namespace Go.Proofs.YtlmefgjhbohjlaaGreatDoor
set_option maxRecDepth 20000
set_option maxHeartbeats 4000000
open Go.RowKit
theorem encode_len (r:Int):(Lib.encodeRune r).length≤4:=by
 unfold Lib.encodeRune Lib.encodeRuneZ
 (repeat' split) <;> simp
theorem code_short {l u:B}{n:Nat} (h:code l= .ok n u):u.length≤l.length:=by
 unfold code at h;cases hf:four 4 0 l with
 |err k v=>rw [hf] at h;simp at h
 |ok c v=>
  rw [hf] at h;simp only at h;obtain⟨_,hv,_,_⟩:=four_bound _ _ _ _ _ hf;have hl:v.length≤l.length:=by rw [hv,List.length_drop];exact Nat.sub_le _ _
  split at h
  · simp at h
  · split at h
    · cases hg:lowHalf v with
      |err k x=>rw [hg] at h;simp at h
      |ok m x=>
       rw [hg] at h;simp at h;unfold lowHalf at hg;cases hs:seqSkip lowL_j v with
       |err k y=>rw [hs] at hg;simp at hg
       |ok k y=>
        rw [hs] at hg;simp only at hg;obtain⟨_,hx,_,_⟩:=four_bound _ _ _ _ _ hg;rw [←h.2,hx];simp only [List.length_drop];exact Nat.le_trans (Nat.sub_le _ _) (Nat.le_trans (Nat.sub_le _ _) hl)
    · simp at h;rw [←h.2];exact hl
theorem escape_short {l u:B}{n:Nat} (h:escape l= .ok n u):u.length≤l.length:=by
 cases l with
 |nil=>simp [escape] at h
 |cons c t=>
  simp only [escape] at h;split at h
  · simp at h;rw [←h.2];simp
  · split at h
    · simp at h;rw [←h.2];simp
    · split at h
      · simp at h;rw [←h.2];simp
      · split at h
        · simp at h;rw [←h.2];simp
        · split at h
          · simp at h;rw [←h.2];simp
          · split at h
            · simp at h;rw [←h.2];simp
            · split at h
              · have:=code_short h;simp;omega
              · simp at h
theorem char_short {l u bs:B} (h:char l= .ok bs u):u.length<l.length∧bs.length≤4:=by
 cases l with
 |nil=>simp [char] at h
 |cons c t=>
  simp only [char] at h;split at h
  · simp at h
  · split at h
    · cases he:escape t with
      |err k v=>rw [he] at h;simp at h
      |ok r v=>
       rw [he] at h;simp only [Res.ok.injEq] at h;have:=escape_short he;rw [←h.2,←h.1];exact⟨by simp;omega,encode_len _⟩
    · split at h
      · simp at h
      · next hu=>
        simp only [Res.ok.injEq] at h;have h4:=(uni_decode (c::t) (by simp)).2 hu;have h5:=Lib.encode_decode (c::t) (by simp) h4.2;rw [h4.1] at h5;rw [←h.2,←h.1,←h5];refine⟨?_,encode_len _⟩;rw [List.length_drop];simp;omega
def ToldT (r:Res B) (b:Nat) (s:ByteArray) (d:Nat) (w:World) (e:Ending) (w':World):Prop:=
 match r with
 | .ok bs t=>e= .returned (.tuple #[.string ⟨bs.toArray⟩,.nilIface])∧Rd w' b s t d∧Turn b w w'∧bs.length≤4194304
 | .err k t=>e= .returned (.tuple #[.string ⟨#[]⟩,errV_j k])∧Rd w' b s t d∧Turn b w w'
theorem ToldT.yes {r:Res B}{bs t:B}{b:Nat}{s:ByteArray}{d:Nat}{w w':World}{e:Ending} (h:ToldT r b s d w e w') (k:r= .ok bs t):e= .returned (.tuple #[.string ⟨bs.toArray⟩,.nilIface])∧Rd w' b s t d∧Turn b w w'∧bs.length≤4194304:=by
 rw [k] at h;exact h
theorem ToldT.no {r:Res B}{t:B}{n:Nat}{b:Nat}{s:ByteArray}{d:Nat}{w w':World}{e:Ending} (h:ToldT r b s d w e w') (k:r= .err n t):e= .returned (.tuple #[.string ⟨#[]⟩,errV_j n])∧Rd w' b s t d∧Turn b w w':=by
 rw [k] at h;exact h
def join (acc:B):Res B→Res B
 | .ok cs v=>.ok (acc++cs) v
 | .err k v=>.err k v
theorem Turn.toGrown {b:Nat}{w w':World} (h:Turn b w w'):w.grownBy w' (some b):=⟨h.os,h.tape,h.output,h.size,fun k hk hne=>h.block k hk (fun e=>hne (by rw [e]))⟩
theorem Turn.grown {b:Nat}{w wr w':World}{o:Option Nat} (h:Turn b w wr) (hg:wr.grownBy w' o) (ho:∀ g,o=some g→w.heap.size≤g):Turn b w w':=
 ⟨hg.os.trans h.os,hg.tape.trans h.tape,hg.output.trans h.output,Nat.le_trans h.size hg.size,fun k hk hne=>(hg.block k (Nat.lt_of_lt_of_le hk h.size) (fun e=>by have:=ho k e.symm;omega)).trans (h.block k hk hne)⟩
theorem str_cells_j (acc:B):strOfNums (acc.map fun c=>(c.toNat:Int))=⟨acc.toArray⟩:=by
 unfold strOfNums;congr 2;rw [List.map_map];conv=>rhs;rw [←List.map_id acc]
 apply List.map_congr_left;intro c _;simp
theorem conv_own_j {w:World}{B0:Nat}{v:Value}{acc:B} (h:w.ownsRowF B0 5 1 v acc.length (Lib.byteCells acc)):(convert 106 9 v).run Tryz.prog w= .ok (.string ⟨acc.toArray⟩) w:=by
 rcases h.2 with ⟨rfl,h0⟩|⟨g,cap,cur,fz,rfl,h1,h2,h3,h4,h5,h6,h7⟩
 · obtain rfl:acc= []:=List.eq_nil_of_length_eq_zero h0;exact run_convert_bytes_nil w 106 5 (by kernel_rfl) (by kernel_rfl) 0 0 9 (by kernel_rfl)
 · rw [←str_cells_j];refine run_convert_bytes_arg w 106 5 (by kernel_rfl) (by kernel_rfl) g 0 acc.length cap _ (by simp) ?_ 9 (by kernel_rfl);intro i hi;have:=h.cells (g:=g) rfl i (.int .u8 ((acc[i].toNat:Nat):Int)) (by simp [Lib.byteCells,hi]);have hadd:(⟨g,0,none⟩:Addr).add i=⟨g,0+i,none⟩:=by unfold Addr.add;split <;> simp_all
   rw [hadd] at this;rw [this];simp [List.getD,hi]
structure Env (w:World):Prop where
 tabs:Tabs w
 syn:∃ te pe,w.cell? ⟨4,0,none⟩=some (.iface te pe)
 rng:∃ te pe,w.cell? ⟨5,0,none⟩=some (.iface te pe)
theorem Env.lt {w:World} (h:Env w):6≤w.heap.size:=by
 have a:=lt_of_cell (h.tabs.1 0 (by omega));have b:=lt_of_cell (h.tabs.2 0 (by omega)).1;obtain⟨_,_,c⟩:=h.syn;obtain⟨_,_,d⟩:=h.rng;have c:=lt_of_cell c;have d:=lt_of_cell d;omega
theorem Env.of_heap {w w':World} (h:Env w) (e:∀ k,k<6→w'.heap[k]?=w.heap[k]?):Env w':=by
 have key:∀ a:Addr,a.block<6→w'.cell? a=w.cell? a:=fun a ha=>World.cell?_of_block (e _ ha)
 refine⟨⟨fun c hc=>?_,fun i hi=>⟨?_,?_⟩⟩,?_,?_⟩
 · rw [key _ (by show 1<6;decide)];exact h.tabs.1 c hc
 · rw [key _ (by show 2<6;decide)];exact(h.tabs.2 i hi).1
 · rw [key _ (by show 2<6;decide)];exact(h.tabs.2 i hi).2
 · obtain⟨te,pe,c⟩:=h.syn;exact⟨te,pe,by rw [key _ (by decide)];exact c⟩
 · obtain⟨te,pe,c⟩:=h.rng;exact⟨te,pe,by rw [key _ (by decide)];exact c⟩
theorem Env.turn {w w':World}{b:Nat} (h:Env w) (t:Turn b w w') (hb:6≤b):Env w':=
 h.of_heap fun k hk=>t.block k (Nat.lt_of_lt_of_le hk h.lt) (by omega)
theorem Env.below {w w':World} (h:Env w) (t:Below w.heap.size w w'):Env w':=
 h.of_heap fun k hk=>t.block k (Nat.lt_of_lt_of_le hk h.lt)
structure Txt (w wr:World) (b:Nat) (s:ByteArray) (d:Nat) (t acc:B) (v:Value):Prop where
 rd:Rd wr b s t d
 turn:Turn b w wr
 env:Env w
 ge:6≤b
 own:wr.ownsRowF w.heap.size 5 1 v acc.length (Lib.byteCells acc)
 most:acc.length+4*t.length≤4*s.size
 lt:b<w.heap.size
theorem Txt.next {w wr w':World}{b:Nat}{s:ByteArray}{d:Nat}{t u acc:B}{v:Value} (h:Txt w wr b s d t acc v) (ht:Turn b wr w') (hr:Rd w' b s u d) (hl:u.length≤t.length):Txt w w' b s d u acc v:=by
 refine⟨hr,h.turn.trans ht,h.env,h.ge,?_,by have:=h.most;omega,h.lt⟩;refine h.own.kept ht.toGrown ?_;rcases ho:v.ownBlock with _|g
 · exact .inl rfl
 · right;have:=h.own.lt g ho;have h2:=h.lt;simp;omega
theorem Txt.put {w wr w':World}{b:Nat}{s:ByteArray}{d:Nat}{t u acc bs:B}{v v':Value}{o:Obj} (h:Txt w wr b s d t acc v) (hm:acc.length+bs.length+4*u.length≤4*s.size) (hr:Rd wr b s u d)
 (ho:w'.ownsRowF w.heap.size 5 1 v' (acc.length+(Lib.byteCells bs).length) (Lib.byteCells acc++Lib.byteCells bs)) (hg:(wr.alloc o).grownBy w' v.ownBlock):Txt w w' b s d u (acc++bs) v':=by
 have h1:∀ g,v.ownBlock=some g→w.heap.size≤g:=fun g hg=>(h.own.lt g hg).1
 have hb:∀ k,k<wr.heap.size→some k≠v.ownBlock→w'.heap[k]?=wr.heap[k]?:=fun k hk hne=>by
  rw [hg.block k (by simp;omega) hne];exact(below_new wr o).block k hk
 refine⟨hr.of_heap (hb b hr.lt ?_),(h.turn.alloc o).grown hg h1,h.env,h.ge,?_,by simp;omega,h.lt⟩
 · intro e;have:=h1 b e.symm;have:=h.lt;omega
 · rw [Lib.byteCells_append];rw [Lib.byteCells_length] at ho;simpa using ho
theorem join_nil (r:Res B):join [] r=r:=by cases r <;> rfl
theorem text_any {w:World}{b:Nat}{s:ByteArray}{l:B}{d:Nat} (h:Rd w b s l d) (hE:Env w) (hb:6≤b) (hms:s.size≤1048576) (hl:∃ l1,l=34::l1):
 Calls Tryz.prog 195 #[.pointer (some ⟨b,0,none⟩)] w fun e w'=>ToldT (text l) b s d w e w':=by
 obtain⟨l1,rfl⟩:=hl;obtain⟨T,HT⟩:∃ T,Hid (text (34::l1)=T):=⟨_,rfl⟩;rw [HT.out];obtain⟨p,hA⟩:=h.at;have c1:=hA.c1;have f1:=hA.fz 1;have hle:=hA.le;have HX:=hid hA.step;have HS:=hid (show (34::l1:B).length≤s.size by have:=hA.len;omega);have R0:=hid (show Txt w (w.setCell ⟨b,1,none⟩ (.int .i64 ((p:Int)+1))) b s d l1 [] (.slice none 0 0) from
  ⟨h.moved _ (by push_cast;rfl) HX.out.2 HX.out.1,(Turn.refl _ _).setCell _ _,hE,hb,World.ownsRowF_nil _ _ _ _,by have:=HS.out;simp at this ⊢;omega,h.lt⟩)
 clear h hA hE;go_enter Tryz.func195,Tryz.ntmps195;go_wp2;go_loopg [4] (l1.length+1) (fun gk s4 wr=>∃ (t acc:B),t.length<gk∧join acc (chars gk t)=T∧Txt w wr b s d t acc s4)
 case atStart=>exact⟨l1,[],by omega,by rw [join_nil];exact HT.out,R0.out⟩
 case round=>
  obtain⟨t,acc,ht,hj,hx⟩:=hrel;have H:=hid hj;have R1:=hid hx;clear hj hx R0 c1 f1 HX;cases gk with
  |zero=>omega
  |succ f=>
   obtain⟨X,hX⟩:∃ X:Nat,(nx t).toNat=X:=⟨_,rfl⟩;have HX:=hid hX;by_cases h34:nx t=34
   · obtain rfl:X=34:=by rw [←hX,h34];rfl
     have hT:T= .ok acc (t.drop 1):=by
      rw [←H.out];simp only [chars];rw [if_pos h34];simp [join]
     cases t with
     |nil=>simp [nx] at h34
     |cons c u=>
      obtain⟨q,hA⟩:=R1.out.rd.at;have c1:=hA.c1;have f1:=hA.fz 1;have hle2:=hA.le;have HY:=hid hA.step;have HT2:=hid hT;clear hA hT hX h34;go_wp2_with (go_at_call 193;refine(next_any R1.out.rd).mono ?_;rintro e w' ⟨rfl,n,rfl⟩;rw [HX.out];have R2:=hid (R1.out.next ((Turn.refl _ _).drewN n) (R1.out.rd.drewN n) (Nat.le_refl _));have R3:=hid (show Txt w ((wr.drewN n).setCell ⟨b,1,none⟩ (.int .i64 ((q:Int)+1))) b s d u acc _ from R2.out.next ((Turn.refl _ _).setCell _ _) (R2.out.rd.moved _ (by push_cast;rfl) HY.out.2 HY.out.1) (by simp));have hcv:=conv_own_j R3.out.own);go_ret2;rw [HT2.out];exact⟨rfl,R3.out.rd,R3.out.turn,by have:=R3.out.most;omega⟩
   · have hne:((X:Int)== 34)=false:=by
      simp only [beq_eq_false_iff_ne,ne_eq];intro e;apply h34;apply UInt8.toNat_inj.1;rw [hX];show X=34;omega
     cases hc:char t with
     |err k u=>
      have HT2:Hid (T= .err k u):=by unfold Hid;rw [←H.out];simp only [chars];rw [if_neg h34,hc];rfl
      have HC:=hid hc;clear hc hX h34;go_wp2_with (first
       |(go_at_call 193;refine(next_any R1.out.rd).mono ?_;rintro e w' ⟨rfl,n,rfl⟩;rw [HX.out];have R2:=hid (R1.out.next ((Turn.refl _ _).drewN n) (R1.out.rd.drewN n) (Nat.le_refl _)))
       |(go_at_call 242;(with_reducible refine(char_any R2.out.rd (R2.out.env.turn R2.out.turn R2.out.ge).tabs).mono ?_);intro e w1 hq;rw [HC.out] at hq;obtain⟨rfl,hz⟩:=hq;have R3:=hid hz;clear hz))
      go_ret2;rw [HT2.out];exact⟨rfl,R3.out.1,R2.out.turn.trans R3.out.2⟩
     |ok bs u=>
      have HC:=hid hc;have hsh:=char_short hc;have HH:=hid (show join (acc++bs) (chars f u)=T from by
       rw [←H.out];simp only [chars];rw [if_neg h34,hc];simp only;cases chars f u <;> simp [join])
      clear hc hX h34;obtain⟨s1,s2⟩:=hsh;have HM2:=hid (show acc.length+bs.length+4*u.length≤4*s.size by have:=R1.out.most;omega);have HM:=hid (show acc.length+4≤140737488355328 by have:=R1.out.most;omega);go_wp2_with (first
       |(go_at_call 193;refine(next_any R1.out.rd).mono ?_;rintro e w' ⟨rfl,n,rfl⟩;rw [HX.out];have R2:=hid (R1.out.next ((Turn.refl _ _).drewN n) (R1.out.rd.drewN n) (Nat.le_refl _)))
       |(go_at_call 242;(with_reducible refine(char_any R2.out.rd (R2.out.env.turn R2.out.turn R2.out.ge).tabs).mono ?_);intro e w1 hq;rw [HC.out] at hq;obtain⟨rn,rfl,z1,z2,z3,z4⟩:=hq;have Z:=hid (show (-2147483648:Int)≤(rn:Int)∧(rn:Int)≤2147483647 from⟨by omega,by omega⟩);have R3:=hid (And.intro z1 (And.intro z2 (And.intro (R2.out.next (u:=u) z4 z3 (by omega)) z3)));clear z1 z2 z3 z4)
       |(go_at_call 243;(with_reducible refine(Tryz.utf8_AppendRune_row w.heap.size _ acc.length _ (rn:Int) Z.out.1 Z.out.2 _ R3.out.2.2.1.own HM.out R3.out.2.2.1.turn.size).mono ?_);rintro e w2 ⟨v2,rfl,ho,ob,hg⟩;rw [←Lib.byteCells_encodeRune,R3.out.2.1] at ho;have R5:=hid (Txt.put (u:=u) R3.out.2.2.1 HM2.out R3.out.2.2.2 ho hg);clear ho hg))
      go_roundg f
      case measure=>omega
      case rel=>exact⟨u,acc++bs,by omega,HH.out,R5.out⟩
def vcells (k:Int) (b:Bool) (t:B) (n:Int) (h:Bool) (lv nv:Value):List Value:=[.int .i64 k,.bool b,.string (str t),.int .i64 n,.bool h,lv,nv]
def SliceIs (v:Value) (n:Nat) (P:Nat→Nat→Prop):Prop:=∃ p c,v= .slice p n c∧n≤c∧(0<n→∃ g o,p=some ⟨g,o,none⟩∧P g o)
def StrsAt (w:World) (ns:List B) (g o:Nat):Prop:=∀ j t,ns[j]?=some t→w.cell? ⟨g,o+j,none⟩=some (.string (str t))
mutual
def ValIs (w:World) (F:Nat→Prop):JV→List Value→Prop
 | .mk k b t n h ls ns,cs=>∃ lv nv,cs=vcells k b t n h lv nv∧SliceIs lv ls.length (fun g o=>F g∧ValsIs w F ls g o)∧SliceIs nv ns.length (fun g o=>F g∧StrsAt w ns g o)
def ValsIs (w:World) (F:Nat→Prop):List JV→Nat→Nat→Prop
 | [],_,_=>True
 |x::xs,g,o=>(∃ cs,ValIs w F x cs∧∀ j c,cs[j]?=some c→w.cell? ⟨g,o+j,none⟩=some c)∧ValsIs w F xs g (o+7)
end
theorem SliceIs.imp {v:Value}{n:Nat}{P Q:Nat→Nat→Prop} (h:SliceIs v n P) (i:∀ g o,P g o→Q g o):SliceIs v n Q:=by
 obtain⟨p,c,rfl,hc,h⟩:=h;exact⟨p,c,rfl,hc,fun hn=>by obtain⟨g,o,rfl,h2⟩:=h hn;exact⟨g,o,rfl,i g o h2⟩⟩
theorem StrsAt.keep {w w':World}{ns:List B}{g o:Nat} (h:StrsAt w ns g o) (e:w'.heap[g]?=w.heap[g]?):StrsAt w' ns g o:=fun j t hj=>by
 rw [World.cell?_of_block (w:=w) (by exact e)];exact h j t hj
mutual
theorem ValIs.keep {w w':World}{F F':Nat→Prop} (e:∀ k,F k→w'.heap[k]?=w.heap[k]?) (i:∀ k,F k→F' k):∀ (t:JV) (cs:List Value),ValIs w F t cs→ValIs w' F' t cs
 | .mk k b t n h ls ns,cs,hv=>by
  simp only [ValIs] at hv ⊢;obtain⟨lv,nv,rfl,h1,h2⟩:=hv;exact⟨lv,nv,rfl,h1.imp fun g o hg=>⟨i g hg.1,ValsIs.keep e i ls g o hg.1 hg.2⟩,h2.imp fun g o hg=>⟨i g hg.1,hg.2.keep (e g hg.1)⟩⟩
theorem ValsIs.keep {w w':World}{F F':Nat→Prop} (e:∀ k,F k→w'.heap[k]?=w.heap[k]?) (i:∀ k,F k→F' k):∀ (ls:List JV) (g o:Nat),F g→ValsIs w F ls g o→ValsIs w' F' ls g o
 | [],_,_,_,_=>trivial
 |x::xs,g,o,hF,hv=>by
  simp only [ValsIs] at hv ⊢;obtain⟨⟨cs,h1,h2⟩,h3⟩:=hv;exact⟨⟨cs,ValIs.keep e i x cs h1,fun j c hj=>by rw [World.cell?_of_block (w:=w) (by exact e g hF)];exact h2 j c hj⟩,ValsIs.keep e i xs g (o+7) hF h3⟩
end
theorem ValIs.form {w:World}{F:Nat→Prop}{t:JV}{cs:List Value} (h:ValIs w F t cs):∃ k b tx n hh p1 n1 q1 p2 n2 q2,cs= [.int .i64 k,.bool b,.string (str tx),.int .i64 n,.bool hh,.slice p1 n1 q1,.slice p2 n2 q2]:=by
 cases t with
 |mk k b tx n hh ls ns=>
  simp only [ValIs] at h;obtain⟨lv,nv,rfl,⟨p1,q1,rfl,_⟩,⟨p2,q2,rfl,_⟩⟩:=h;exact⟨k,b,tx,n,hh,p1,_,q1,p2,_,q2,rfl⟩
theorem num_form (t:B):∃ n h,numV t= .mk 3 false t n h [] []:=by
 unfold numV;split
 · exact⟨_,_,rfl⟩
 · exact⟨_,_,rfl⟩
def numI (t:B):Int:=match numV t with| .mk _ _ _ n _ _ _=>n
def numH (t:B):Bool:=match numV t with| .mk _ _ _ _ h _ _=>h
theorem two_new {w w1:World}{o1 o2:Obj} (h:Below ((w.alloc o1).alloc o2).heap.size ((w.alloc o1).alloc o2) w1):w1.heap[w.heap.size]?=some o1∧w1.heap[w.heap.size+1]?=some o2∧Below w.heap.size w w1:=by
 refine⟨?_,?_,?_⟩
 · rw [h.block _ (by simp;omega),Below.heap_alloc _ _ _ (by simp)];exact heap_alloc_new w o1
 · rw [h.block _ (by simp)];have:=heap_alloc_new (w.alloc o1) o2;simpa using this
 · exact(((Below.refl _ _).alloc (Nat.le_refl _) o1).alloc (by simp) o2).trans (h.mono (by simp;omega))
theorem val_size:(Tryz.prog.info? 57).map (·.size)=some 7:=by kernel_rfl
theorem results_val1 {fn:Func}{p:Tmp} (h:fn.results= #[.cell p 57]) (tmps:Array Value) (w:World) (g:Nat) (t:TypeId) (cs:Array Value) (fr:Nat×Nat)
 (hp:tmps.getD p undef= .pointer (some ⟨g,0,none⟩)) (hg:w.heap[g]?=some (.cells cs t fr)) (hs:cs.size=7):(results fn tmps).run Tryz.prog w= .ok (.agg cs) w:=by
 exact results_cell_row h tmps w g t cs fr _ hp hg Tryz.underlying57 rfl (by rw [val_size,hs])
theorem results_val2 {fn:Func}{p u:Tmp} (h:fn.results= #[.cell p 57,.tmp u]) (tmps:Array Value) (w:World) (g:Nat) (t:TypeId) (cs:Array Value) (fr:Nat×Nat)
 (hp:tmps.getD p undef= .pointer (some ⟨g,0,none⟩)) (hg:w.heap[g]?=some (.cells cs t fr)) (hs:cs.size=7):(results fn tmps).run Tryz.prog w= .ok (.tuple #[.agg cs,tmps.getD u undef]) w:=by
 have hl:=run_loadVar_row (P:=Tryz.prog) w g t 57 cs fr _ hg Tryz.underlying57 rfl (by rw [val_size,hs]);rw [results_cell_tmp h,hp];simp [asAddr,Result.andThen,hl]
theorem two_env {w:World} (h:Env w) (o1 o2:Obj):Env ((w.alloc o1).alloc o2):=(h.below (below_new w o1)).below (below_new _ o2)
theorem below_or {w w':World}{e:TypeId} (h:w'=w∨∃ t,w'=Lib.bytesWorld w e t):Below w.heap.size w w':=by
 rcases h with rfl|⟨t,rfl⟩
 · exact Below.refl _ _
 · exact Lib.bytesWorld_below _ _ _
structure Seven_j (w:World) (g:Nat) (c0 c1 c2 c3 c4 c5 c6:Value):Prop where
 a0:w.cell? ⟨g,0,none⟩=some c0
 a1:w.cell? ⟨g,1,none⟩=some c1
 a2:w.cell? ⟨g,2,none⟩=some c2
 a3:w.cell? ⟨g,3,none⟩=some c3
 a4:w.cell? ⟨g,4,none⟩=some c4
 a5:w.cell? ⟨g,5,none⟩=some c5
 a6:w.cell? ⟨g,6,none⟩=some c6
 fz:∀ j,w.frozen? ⟨g,j,none⟩=false
theorem seven_j {w:World}{g:Nat}{c0 c1 c2 c3 c4 c5 c6:Value}{T:TypeId} (h:w.heap[g]?=some (.cells #[c0,c1,c2,c3,c4,c5,c6] T (0,0))):Seven_j w g c0 c1 c2 c3 c4 c5 c6:=by
 refine⟨?_,?_,?_,?_,?_,?_,?_,fun j=>by simp [World.frozen?,h]⟩ <;> simp [World.cell?,h]
theorem num_any (t:B) (ht:t.length≤1048576) (w:World) (hE:Env w):
 Calls Tryz.prog 199 #[.string (str t)] w fun e w'=>e= .returned (.agg (vcells 3 false t (numI t) (numH t) (.slice none 0 0) (.slice none 0 0)).toArray)∧Below w.heap.size w w':=by
 have hs:(str t).size≤1048576:=by simpa [ByteArray.size] using ht
 have hd:(str t).data.toList=t:=by simp
 cases ha:Lib.atoiAll t with
 |ok v=>
  have e1:numI t=v:=by simp [numI,numV,ha]
  have e2:numH t=true:=by simp [numH,numV,ha]
  rw [e1,e2];have HA:=hid (show Lib.atoiAll (str t).data.toList= .ok v by rw [hd];exact ha);have HS:=hid hs;have HE:=hid hE;obtain⟨S,hS⟩:∃ S,str t=S:=⟨_,rfl⟩;unfold vcells;rw [hS] at HA HS ⊢;clear ha hd hs e1 e2 hE;go_enter Tryz.func199,Tryz.ntmps199;go_wp2_with (go_at_call 250;refine(Tryz.strconv_Atoi_ok S (by have:=HS.out;omega) v HA.out _).mono ?_;rintro e w1 ⟨rfl,hw⟩;have hb1:=below_or hw;clear hw;have HB:=hid (two_new hb1);clear hb1;have s1:=seven_j HB.out.1;have s2:=seven_j HB.out.2.1;obtain⟨a0,a1,a2,a3,a4,a5,a6,az⟩:=s1;obtain⟨b0,b1,b2,b3,b4,b5,b6,bz⟩:=s2;have az0:=az 0;have az1:=az 1;have az2:=az 2;have az3:=az 3;have az4:=az 4;have az5:=az 5;have az6:=az 6;have bz3:=bz 3;have bz4:=bz 4;clear az bz)
  (try simp only [Exit.inBlock,Exit.then])
  refine bodyPost_ret (results_val1 rfl _ _ _ 57 _ (0,0) rfl (seven_put ?hg _ _ _ _ _ _ _) rfl) rfl ?_
  case hg=>first|exact has_seven HB.out.1|exact has_seven ((Below.heap_setCell _ _ _ _ (Nat.ne_of_lt (Nat.lt_succ_self _))).trans ((Below.heap_setCell _ _ _ _ (Nat.ne_of_lt (Nat.lt_succ_self _))).trans HB.out.1))
  refine⟨rfl,?_⟩;have h2:=HB.out.2.2;repeat refine Below.setCell ?_ (by first|exact Nat.le_refl _|exact Nat.le_succ _) _
  exact h2
 | «syntax»=>
  have e1:numI t=0:=by simp [numI,numV,ha]
  have e2:numH t=false:=by simp [numH,numV,ha]
  rw [e1,e2];have HA:=hid (show Lib.atoiAll (str t).data.toList= .«syntax» by rw [hd];exact ha);have HS:=hid hs;have HE:=hid hE;obtain⟨S,hS⟩:∃ S,str t=S:=⟨_,rfl⟩;unfold vcells;rw [hS] at HA HS ⊢;clear ha hd hs e1 e2 hE;go_enter Tryz.func199,Tryz.ntmps199;go_wp2_with (go_at_call 250;obtain⟨te,pe,hv⟩:=(two_env HE.out _ _).syn;refine(Tryz.strconv_Atoi_syntax S (by have:=HS.out;omega) HA.out _ _ hv (Or.inr ⟨_,_,rfl⟩)).mono ?_;rintro e w1 ⟨N,rfl,_,_,hb1⟩;have HB:=hid (two_new hb1);clear hb1;have s1:=seven_j HB.out.1;have s2:=seven_j HB.out.2.1;obtain⟨a0,a1,a2,a3,a4,a5,a6,az⟩:=s1;obtain⟨b0,b1,b2,b3,b4,b5,b6,bz⟩:=s2;have az0:=az 0;have az1:=az 1;have az2:=az 2;have az3:=az 3;have az4:=az 4;have az5:=az 5;have az6:=az 6;have bz3:=bz 3;have bz4:=bz 4;clear az bz)
  (try simp only [Exit.inBlock,Exit.then])
  refine bodyPost_ret (results_val1 rfl _ _ _ 57 _ (0,0) rfl (seven_put ?hg _ _ _ _ _ _ _) rfl) rfl ?_
  case hg=>first|exact has_seven HB.out.1|exact has_seven ((Below.heap_setCell _ _ _ _ (Nat.ne_of_lt (Nat.lt_succ_self _))).trans ((Below.heap_setCell _ _ _ _ (Nat.ne_of_lt (Nat.lt_succ_self _))).trans HB.out.1))
  refine⟨rfl,?_⟩;have h2:=HB.out.2.2;repeat refine Below.setCell ?_ (by first|exact Nat.le_refl _|exact Nat.le_succ _) _
  exact h2
 |range=>
  have e1:numI t=0:=by simp [numI,numV,ha]
  have e2:numH t=false:=by simp [numH,numV,ha]
  rw [e1,e2];have HA:=hid (show Lib.atoiAll (str t).data.toList= .range by rw [hd];exact ha);have HS:=hid hs;have HE:=hid hE;obtain⟨S,hS⟩:∃ S,str t=S:=⟨_,rfl⟩;unfold vcells;rw [hS] at HA HS ⊢;clear ha hd hs e1 e2 hE;go_enter Tryz.func199,Tryz.ntmps199;go_wp2_with (go_at_call 250;obtain⟨te,pe,hv⟩:=(two_env HE.out _ _).rng;refine(Tryz.strconv_Atoi_range S (by have:=HS.out;omega) HA.out _ _ hv (Or.inr ⟨_,_,rfl⟩)).mono ?_;rintro e w1 ⟨N,rfl,_,_,hb1⟩;have HB:=hid (two_new hb1);clear hb1;have s1:=seven_j HB.out.1;have s2:=seven_j HB.out.2.1;obtain⟨a0,a1,a2,a3,a4,a5,a6,az⟩:=s1;obtain⟨b0,b1,b2,b3,b4,b5,b6,bz⟩:=s2;have az0:=az 0;have az1:=az 1;have az2:=az 2;have az3:=az 3;have az4:=az 4;have az5:=az 5;have az6:=az 6;have bz3:=bz 3;have bz4:=bz 4;clear az bz)
  (try simp only [Exit.inBlock,Exit.then])
  refine bodyPost_ret (results_val1 rfl _ _ _ 57 _ (0,0) rfl (seven_put ?hg _ _ _ _ _ _ _) rfl) rfl ?_
  case hg=>first|exact has_seven HB.out.1|exact has_seven ((Below.heap_setCell _ _ _ _ (Nat.ne_of_lt (Nat.lt_succ_self _))).trans ((Below.heap_setCell _ _ _ _ (Nat.ne_of_lt (Nat.lt_succ_self _))).trans HB.out.1))
  refine⟨rfl,?_⟩;have h2:=HB.out.2.2;repeat refine Below.setCell ?_ (by first|exact Nat.le_refl _|exact Nat.le_succ _) _
  exact h2
open Go.RowKit Go.Maps
theorem law:Keyed Tryz.prog 9:=string_keyed Tryz.underlying9
theorem zeroU (w:World):(zeroValue 265).run Tryz.prog w= .ok (.agg #[]) w:=by kernel_rfl
def SetAt (w:World) (m:Nat) (ns:List B):Prop:=w.ownsMap Tryz.prog 9 (unitElem (H:=Unit)) m ns.length (Maps.setOf (.agg []) (ns.map Lit.string))
theorem has_names (ns:List B) (nm:B):Maps.has (Maps.setOf (H:=Unit) (.agg []) (ns.map Lit.string)) (Lit.string nm)=ns.contains nm:=by
 rw [Maps.has_setOf]
 · induction ns with
   |nil=>rfl
   |cons a l ih=>
    rw [List.map_cons,List.any_cons,ih,List.contains_cons];congr 1;show (a== nm)=(nm== a);exact Bool.eq_iff_iff.2 ⟨fun h=>by rw [beq_iff_eq] at h ⊢;exact h.symm,fun h=>by rw [beq_iff_eq] at h ⊢;exact h.symm⟩
 · intro x hx;obtain⟨t,_,rfl⟩:=List.mem_map.1 hx;trivial
structure Turn2 (b m:Nat) (w w':World):Prop where
 os:w'.os=w.os
 tape:w'.tape=w.tape
 output:w'.output=w.output
 size:w.heap.size≤w'.heap.size
 block:∀ k,k<w.heap.size→k≠b→k≠m→w'.heap[k]?=w.heap[k]?
theorem Turn.two {b m:Nat}{w w':World} (h:Turn b w w'):Turn2 b m w w':=⟨h.os,h.tape,h.output,h.size,fun k hk h1 _=>h.block k hk h1⟩
theorem Turn2.trans {b m:Nat}{x y z:World} (h:Turn2 b m x y) (k:Turn2 b m y z):Turn2 b m x z:=
 ⟨k.os.trans h.os,k.tape.trans h.tape,k.output.trans h.output,Nat.le_trans h.size k.size,fun i hi h1 h2=>(k.block i (Nat.lt_of_lt_of_le hi h.size) h1 h2).trans (h.block i hi h1 h2)⟩
theorem Turn2.of_grown {b m:Nat}{w w':World} (h:w.grownBy w' (some m)):Turn2 b m w w':=⟨h.os,h.tape,h.output,h.size,fun k hk _ h2=>h.block k hk (fun e=>h2 (by simpa using e))⟩
structure Nm (w wr:World) (b m:Nat) (s:ByteArray) (d:Nat) (t:B) (ns:List B):Prop where
 rd:Rd wr b s t d
 set:SetAt wr m ns
 turn:Turn2 b m w wr
theorem Nm.next {w wr w':World}{b m:Nat}{s:ByteArray}{d:Nat}{t u:B}{ns:List B} (h:Nm w wr b m s d t ns) (hm:m≠b) (ht:Turn b wr w') (hr:Rd w' b s u d):Nm w w' b m s d u ns:=
 ⟨hr,World.ownsMap.kept h.set ht.toGrown (by simpa using hm),h.turn.trans ht.two⟩
theorem Nm.alloc {w wr:World}{b m:Nat}{s:ByteArray}{d:Nat}{t:B}{ns:List B} (h:Nm w wr b m s d t ns) (hm:m≠b) (o:Obj):Nm w (wr.alloc o) b m s d t ns:=
 h.next hm ((Turn.refl _ _).alloc o) (h.rd.below (below_new _ _))
theorem Nm.put {w wr w':World}{b m:Nat}{s:ByteArray}{d:Nat}{t nm:B}{ns:List B} (h:Nm w wr b m s d t ns) (hm:m≠b)
 (ho:w'.ownsMap Tryz.prog 9 (unitElem (H:=Unit)) m (ns.length+1) ((Maps.setOf (.agg []) (ns.map Lit.string)).put (Lit.string nm) (.agg []))) (hg:wr.grownBy w' (some m)):Nm w w' b m s d t (ns++ [nm]):=by
 refine⟨h.rd.of_heap (hg.block b h.rd.lt (by simpa using hm.symm)),?_,h.turn.trans (Turn2.of_grown hg)⟩;unfold SetAt;rw [List.map_append,List.map_cons,List.map_nil,Maps.setOf_snoc,List.length_append];exact ho
def ToldM (ns:List B) (r:Res B) (b m:Nat) (s:ByteArray) (d:Nat) (w:World) (e:Ending) (w':World):Prop:=
 match r with
 | .ok nm t=>e= .returned (.tuple #[.string (str nm),.nilIface])∧Nm w w' b m s d t (ns++ [nm])
 | .err k t=>e= .returned (.tuple #[.string ⟨#[]⟩,errV_j k])∧∃ ns',Nm w w' b m s d t ns'
theorem len_key {nm:B} (h:nm.length≤4194304):(str nm).size≤maxLen:=by
 show nm.toArray.size≤maxLen;unfold maxLen;simp;omega
theorem name_head {l:B} (h:nx l=34):∃ l1,l=34::l1:=by
 cases l with
 |nil=>simp [nx] at h
 |cons c t=>exact⟨t,by rw [show c=34 from h]⟩
theorem name_any {w:World}{b m:Nat}{s:ByteArray}{l:B}{d:Nat}{ns:List B} (h:Rd w b s l d) (hE:Env w) (hb:6≤b) (hs:SetAt w m ns) (hm:m≠b) (hsz:s.size≤1048576) (hn:ns.length≤2000000):
 Calls Tryz.prog 248 #[.pointer (some ⟨b,0,none⟩),.map (some m)] w fun e w'=>ToldM ns (nameS ns l) b m s d w e w':=by
 have R0:=hid (show Nm w w b m s d l ns from⟨h,hs,(Turn.refl b w).two⟩);have HMB:=hid hm;have HB:=hid hb;have HSZ:=hid hsz;clear hsz;have HE0:=hid hE;obtain⟨p,hA⟩:=h.at;have HA:=hid hA;have c1:=hA.c1;have hle:=hA.le;have hms:=hA.most;obtain⟨X,hX⟩:∃ X:Nat,(nx l).toNat=X:=⟨_,rfl⟩;have HX:=hid hX;clear h hs hE hA;by_cases h34:nx l=34
 · obtain rfl:X=34:=by rw [←hX,h34];rfl
   have HL:=hid (name_head h34);have H34:=hid h34;have HE1:∀ n,Hid (Env (w.drewN n)):=fun n=>HE0.out.turn ((Turn.refl b w).drewN n) HB.out
   clear hX h34 hm hb;cases ht:text l with
   |err k u=>
    have HTx:=hid ht;have HR:Hid (nameS ns l= .err k u):=by unfold Hid nameS;rw [if_neg (by simpa using H34.out),ht]
    clear ht;go_enter Tryz.func248,Tryz.ntmps248;go_wp2_with (first
     |(go_at_call 193;refine(next_any R0.out.rd).mono ?_;rintro e w' ⟨rfl,n,rfl⟩;rw [HX.out];have R1:=hid (R0.out.next HMB.out ((Turn.refl _ _).drewN n) (R0.out.rd.drewN n));clear R0;replace HE1:=HE1 n)
     |(go_at_call 195;(with_reducible refine(text_any R1.out.rd HE1.out HB.out HSZ.out HL.out).mono ?_);intro e w1 hq;obtain⟨rfl,hz⟩:=ToldT.no hq HTx.out;have R2:=hid (R1.out.next HMB.out hz.2 hz.1);clear hz hq R1))
    go_ret2;rw [HR.out];exact⟨rfl,ns,R2.out⟩
   |ok nm u=>
    have HTx:=hid ht;by_cases hf:ns.contains nm=true
    · have HF:=hid hf;have HR:Hid (nameS ns l= .err 6 l):=by unfold Hid nameS;rw [if_neg (by simpa using H34.out),ht];exact if_pos hf
      clear ht hf;go_enter Tryz.func248,Tryz.ntmps248;go_wp2_with (first
       |(go_at_call 193;refine(next_any R0.out.rd).mono ?_;rintro e w' ⟨rfl,n,rfl⟩;rw [HX.out];have R1:=hid (R0.out.next HMB.out ((Turn.refl _ _).drewN n) (R0.out.rd.drewN n));clear R0;replace HE1:=HE1 n)
       |(go_at_call 195;(with_reducible refine(text_any R1.out.rd HE1.out HB.out HSZ.out HL.out).mono ?_);intro e w1 hq;obtain⟨rfl,hz⟩:=ToldT.yes hq HTx.out;have R2:=hid (R1.out.next HMB.out hz.2.1 hz.1);have HKey:=hid (Go.WideMaps.keyOf_string_mk (k:=9) Tryz.underlying9 (s:=str nm) (len_key hz.2.2));clear hz hq R1;obtain⟨p2,hA2⟩:=R2.out.rd.at;have d1:=hA2.c1;have f1:=hA2.fz 1;have hbl:=R2.out.rd.lt;clear hA2)
       |(at_lookup;refine wpList_lookup_own_unit _ rfl _ _ 264 rfl 9 265 law Tryz.underlying264 (zeroU _) m ns.length _ rfl R2.out.set _ _ rfl HKey.out ?_;rw [has_names,HF.out]))
      go_ret2;rw [HR.out];refine⟨rfl,ns,?_⟩;exact(R2.out.next HMB.out ((Turn.refl _ _).setCell _ _) (R2.out.rd.moved _ rfl HA.out.le HA.out.drop)).alloc HMB.out _
    · have hf2:ns.contains nm=false:=by simpa using hf
      have HF:=hid hf2;clear hf hf2;cases hc:skip [58] (blanks u) with
      |none=>
       have HC:=hid hc;have HR:Hid (nameS ns l= .err 3 (blanks u)):=by unfold Hid nameS;rw [if_neg (by simpa using H34.out),ht];simp only [HF.out,hc];rfl
       clear hc ht;go_enter Tryz.func248,Tryz.ntmps248;go_wp2_with (first
        |(go_at_call 193;refine(next_any R0.out.rd).mono ?_;rintro e w' ⟨rfl,n,rfl⟩;rw [HX.out];have R1:=hid (R0.out.next HMB.out ((Turn.refl _ _).drewN n) (R0.out.rd.drewN n));clear R0;replace HE1:=HE1 n)
        |(go_at_call 195;(with_reducible refine(text_any R1.out.rd HE1.out HB.out HSZ.out HL.out).mono ?_);intro e w1 hq;obtain⟨rfl,hz⟩:=ToldT.yes hq HTx.out;have R2:=hid (R1.out.next HMB.out hz.2.1 hz.1);have HKey:=hid (Go.WideMaps.keyOf_string_mk (k:=9) Tryz.underlying9 (s:=str nm) (len_key hz.2.2));clear hz hq R1)
        |(at_lookup;refine wpList_lookup_own_unit _ rfl _ _ 264 rfl 9 265 law Tryz.underlying264 (zeroU _) m ns.length _ rfl R2.out.set _ _ rfl HKey.out ?_;rw [has_names,HF.out])
        |(at_mapUpdate;refine wpList_mapUpdate_own _ rfl _ _ _ 264 rfl 9 265 law Tryz.underlying264 (unitElem (H:=Unit)) m ns.length _ rfl (R2.out.set.alloc _) (by unfold maxLen;omega) _ _ _ rfl rfl HKey.out _ [] unitElem_mk ?_;intro w2 hown hgrow;have R3:=hid (Nm.put (R2.out.alloc HMB.out _) HMB.out hown hgrow);clear hown hgrow R2)
        |(go_at_call 120;(with_reducible refine(blanks_any R3.out.rd).mono ?_);rintro e w3 ⟨rfl,z1,z2⟩;have R4:=hid (R3.out.next HMB.out z2 z1);clear z1 z2 R3)
        |(go_at_call 192;(with_reducible refine(skip_colon R4.out.rd).mono ?_);intro e w4 hq;obtain⟨rfl,hz⟩:=Skips.no hq HC.out;have R5:=hid (R4.out.next HMB.out hz.2 hz.1);clear hz hq R4))
       go_ret2;rw [HR.out];exact⟨rfl,_,R5.out⟩
      |some t=>
       have HC:=hid hc;have HR:Hid (nameS ns l= .ok nm (blanks t)):=by unfold Hid nameS;rw [if_neg (by simpa using H34.out),ht];simp only [HF.out,hc];rfl
       clear hc ht;go_enter Tryz.func248,Tryz.ntmps248;go_wp2_with (first
        |(go_at_call 193;refine(next_any R0.out.rd).mono ?_;rintro e w' ⟨rfl,n,rfl⟩;rw [HX.out];have R1:=hid (R0.out.next HMB.out ((Turn.refl _ _).drewN n) (R0.out.rd.drewN n));clear R0;replace HE1:=HE1 n)
        |(go_at_call 195;(with_reducible refine(text_any R1.out.rd HE1.out HB.out HSZ.out HL.out).mono ?_);intro e w1 hq;obtain⟨rfl,hz⟩:=ToldT.yes hq HTx.out;have R2:=hid (R1.out.next HMB.out hz.2.1 hz.1);have HKey:=hid (Go.WideMaps.keyOf_string_mk (k:=9) Tryz.underlying9 (s:=str nm) (len_key hz.2.2));clear hz hq R1)
        |(at_lookup;refine wpList_lookup_own_unit _ rfl _ _ 264 rfl 9 265 law Tryz.underlying264 (zeroU _) m ns.length _ rfl R2.out.set _ _ rfl HKey.out ?_;rw [has_names,HF.out])
        |(at_mapUpdate;refine wpList_mapUpdate_own _ rfl _ _ _ 264 rfl 9 265 law Tryz.underlying264 (unitElem (H:=Unit)) m ns.length _ rfl (R2.out.set.alloc _) (by unfold maxLen;omega) _ _ _ rfl rfl HKey.out _ [] unitElem_mk ?_;intro w2 hown hgrow;have R3:=hid (Nm.put (R2.out.alloc HMB.out _) HMB.out hown hgrow);clear hown hgrow R2)
        |(go_at_call 120;(with_reducible refine(blanks_any R3.out.rd).mono ?_);rintro e w3 ⟨rfl,z1,z2⟩;have R4:=hid (R3.out.next HMB.out z2 z1);clear z1 z2 R3)
        |(go_at_call 192;(with_reducible refine(skip_colon R4.out.rd).mono ?_);intro e w4 hq;obtain⟨rfl,hz⟩:=Skips.yes hq HC.out;have R5:=hid (R4.out.next HMB.out hz.2 hz.1);clear hz hq R4)
        |(go_at_call 120;(with_reducible refine(blanks_any R5.out.rd).mono ?_);rintro e w5 ⟨rfl,z1,z2⟩;have R6:=hid (R5.out.next HMB.out z2 z1);clear z1 z2 R5))
       go_ret2;rw [HR.out];exact⟨rfl,R6.out⟩
 · have hne:((X:Int)== 34)=false:=by
    simp only [beq_eq_false_iff_ne,ne_eq];intro e;apply h34;apply UInt8.toNat_inj.1;rw [hX];show X=34;omega
   have HR:Hid (nameS ns l= .err 3 l):=by unfold Hid nameS;rw [if_pos h34]
   clear hX h34;go_enter Tryz.func248,Tryz.ntmps248;go_wp2_with (go_at_call 193;refine(next_any R0.out.rd).mono ?_;rintro e w' ⟨rfl,n,rfl⟩;rw [HX.out];have R1:=hid (R0.out.next HMB.out ((Turn.refl _ _).drewN n) (R0.out.rd.drewN n));clear R0);go_ret2;rw [HR.out];exact⟨rfl,ns,R1.out⟩
end Go.Proofs.YtlmefgjhbohjlaaGreatDoor
