/- Texts as lists of bytes; rows of bytes, of texts and of fields in memory. -/
import Derived.Test.YtlmlljlappjjjaaGreatDoorProg
import Derived.Test.YtlmlljlappjjjaaGreatDoorOrder
import Derived.WalkSpells
import Derived.WalkLawsBesides
import Derived.Lib.Strings
import Derived.BigQuiet
import Derived.Deep.LoopGhost
import Derived.Deep.RegionHeld3
import Derived.Shelf.RegionOpenPlain
namespace Go.Proofs.YtlmlljlappjjjaaGreatDoor
open Go.RowKit
abbrev B:=List UInt8
theorem all256 {P:UInt8→Prop} (h:∀ n:Fin 256,P (UInt8.ofNat n.1)) (c:UInt8):P c:=by
 have:=h ⟨c.toNat,c.toNat_lt⟩
 rwa [show UInt8.ofNat c.toNat=c from UInt8.ofNat_toNat] at this
def cutF (x:UInt8):B→B×B×Bool
 | []=>([],[],false)
 |c::l=>if c=x then ([],l,true) else (c::(cutF x l).1,(cutF x l).2.1,(cutF x l).2.2)
theorem cutF_no {x:UInt8}:∀ p:B,(∀ y∈p,y≠x)→cutF x p=(p,[],false)
 | [],_=>rfl
 |c::l,h=>by rw [cutF,if_neg (h c (by simp)),cutF_no l (fun y hy=>h y (by simp [hy]))]
theorem cutF_at {x:UInt8}:∀ (p q:B),(∀ y∈p,y≠x)→cutF x (p++x::q)=(p,q,true)
 | [],q,_=>by rw [List.nil_append,cutF,if_pos rfl]
 |c::l,q,h=>by rw [List.cons_append,cutF,if_neg (h c (by simp)),cutF_at l q (fun y hy=>h y (by simp [hy]))]
theorem cutF_spec (x:UInt8):∀ s:B,(∀ y∈(cutF x s).1,y≠x)∧s=(cutF x s).1++(if (cutF x s).2.2 then x::(cutF x s).2.1 else [])∧((cutF x s).2.2=false→(cutF x s).2.1= [])
 | []=>by simp [cutF]
 |c::l=>by
  obtain⟨h1,h2,h3⟩:=cutF_spec x l;by_cases hc:c=x
  · rw [cutF,if_pos hc,hc];simp
  · rw [cutF,if_neg hc];refine⟨fun y hy=>?_,?_,h3⟩
    · rcases List.mem_cons.1 hy with rfl|hy
      · exact hc
      · exact h1 y hy
    · simp only [List.cons_append];rw [←h2]
theorem cutF_lens (x:UInt8) (s:B):(cutF x s).1.length+(cutF x s).2.1.length≤s.length:=by
 obtain⟨h1,h2,h3⟩:=cutF_spec x s;have:=congrArg List.length h2;rw [List.length_append] at this;cases h:(cutF x s).2.2 with
 |true=>rw [h] at this;simp at this;omega
 |false=>rw [h3 h];rw [h] at this;simp at this;simp;omega
theorem hid {p:Prop} (h:p):Hid p:=h
abbrev str (t:B):ByteArray:=⟨t.toArray⟩
theorem str_size (t:B):(str t).size=t.length:=by simp [ByteArray.size]
abbrev byteV (c:UInt8):Value:=.int .u8 (c.toNat:Int)
theorem ret_bool {a b:Bool} (h:a=b):Ending.returned (.bool a)= .returned (.bool b):=by rw [h]
theorem arr_inj {a b:ByteArray} (h:a.data.toList=b.data.toList):a=b:=by
 apply ByteArray.ext;exact Array.toList_inj.1 h
theorem str_inj {a b:B} (h:str a=str b):a=b:=by
 have:=congrArg (fun x:ByteArray=>x.data.toList) h;simpa using this
theorem ne_list {A C:ByteArray} (h:¬A=C):(A.toList== C.toList)=false:=by
 rw [ByteArray.toList_eq,ByteArray.toList_eq,beq_eq_false_iff_ne];exact fun e=>h (arr_inj e)
theorem ne_empty {A:ByteArray} (h:¬A=⟨#[]⟩):A.toList.isEmpty=false:=by
 rw [ByteArray.toList_eq];cases e:A.data.toList with
 |nil=>exact absurd (arr_inj (b:=⟨#[]⟩) e) h
 |cons _ _=>rfl
theorem str_ne {a b:B} (h:a≠b):str a≠str b:=fun e=>h (str_inj e)
theorem ext_str (p:B) (f k:Nat):(str p).extract f k=str ((p.drop f).take (k-f)):=by
 apply arr_inj;simp [List.extract]
theorem below_out {w W w':World} (h1:Below w.heap.size w W) (h2:Below W.heap.size W w'):Below w.heap.size w w':=h1.trans (h2.mono h1.size)
theorem below_drew {Bd:Nat}{a w:World} (h:Below Bd a w):∀ q,Below Bd a (w.drewN q):=fun _=>⟨h.os,h.tape,h.output,h.size,h.block⟩
theorem lt_of_heap {w:World}{k:Nat}{o:Obj} (h:w.heap[k]?=some o):k<w.heap.size:=(Array.getElem?_eq_some_iff.1 h).1
theorem kB {w w':World}{k:Nat}{o:Obj} (hb:Below w.heap.size w w') (h:w.heap[k]?=some o):w'.heap[k]?=some o:=(hb.block k (lt_of_heap h)).trans h
theorem below_new (w:World) (o:Obj):Below w.heap.size w (w.alloc o):=(Below.refl _ _).alloc (Nat.le_refl _) _
theorem own_slice {w:World}{base n m:Nat}{e:TypeId}{u:Value}{ys:List Value} (h:w.ownsRow base e m u n ys):∃ p c,u= .slice p n c:=by
 rcases h.2 with ⟨h1,h2⟩|⟨g,cap,cur,h1,_⟩
 · exact⟨none,0,by rw [h1,h2]⟩
 · exact⟨_,_,h1⟩
theorem own_slice3 {w:World}{base n m:Nat}{e:TypeId}{u:Value}{ys:List Value} (h:w.ownsRow base e m u n ys):∃ p L c,u= .slice p L c:=by
 obtain⟨p,c,e⟩:=own_slice h;exact⟨p,n,c,e⟩
theorem own_ge {w:World}{base n m k:Nat}{e:TypeId}{u:Value}{ys:List Value} (h:w.ownsRow base e m u n ys) (hk:u.ownBlock=some k):base≤k:=by
 rcases h.2 with ⟨rfl,_⟩|⟨g,cap,cur,rfl,h1,_⟩
 · simp [Value.ownBlock] at hk
 · simp [Value.ownBlock] at hk;subst hk;exact h1
theorem own_ne {w:World}{base n m v:Nat}{e:TypeId}{u:Value}{ys:List Value} (h:w.ownsRow base e m u n ys) (hv:v<base) (hk:u.ownBlock=some v):False:=by
 have:=own_ge h hk;omega
def Own (w:World) (base:Nat) (v:Value) (acc:B):Prop:=w.ownsRow base 5 1 v acc.length (Lib.byteCells acc)
theorem cells_app (a b:B):Lib.byteCells (a++b)=Lib.byteCells a++Lib.byteCells b:=by simp [Lib.byteCells]
theorem Own.nil (w:World) (base:Nat):Own w base (.slice none 0 0) []:=⟨rfl,.inl ⟨rfl,rfl⟩⟩
theorem Own.put {w':World}{base k:Nat}{v':Value}{acc bs:B}{news:List Value} (h:w'.ownsRow base 5 1 v' (acc.length+k) (Lib.byteCells acc++news)) (e:Lib.byteCells bs=news) (hk:bs.length=k):Own w' base v' (acc++bs):=by
 unfold Own;rw [cells_app,e,List.length_append,hk];exact h
theorem Own.below {w w':World}{base:Nat}{v:Value}{acc:B} (h:Own w base v acc) (hb:base≤w.heap.size) (hg:w.grownBy w' v.ownBlock):Below base w w':=
 ⟨hg.os,hg.tape,hg.output,hg.size,fun k hk=>hg.block k (by omega) (fun e=>own_ne h hk e.symm)⟩
theorem Own.keep {w w':World}{base:Nat}{v:Value}{acc:B} (h:Own w base v acc) (hb:Below w.heap.size w w'):Own w' base v acc:=by
 refine⟨h.1,?_⟩;rcases h.2 with h1|⟨g,cap,cur,h1,h2,h3,h4⟩
 · exact .inl h1
 · exact .inr ⟨g,cap,cur,h1,h2,(hb.block g (lt_of_heap h3)).trans h3,h4⟩
theorem Own.alloc {w:World}{base:Nat}{v:Value}{acc:B} (h:Own w base v acc) (o:Obj):Own (w.alloc o) base v acc:=h.keep (below_new w o)
theorem add_off (g j:Nat):(⟨g,0,none⟩:Addr).add j=⟨g,j,none⟩:=by unfold Addr.add;split <;> simp_all
theorem cells_new (w:World) (news:List Value) (T:TypeId):∀ j u,news[j]?=some u→(w.alloc (.cells news.toArray T (0,0))).cell? ((⟨w.heap.size,0,none⟩:Addr).add j)=some u:=by
 intro j u hj;rw [add_off];have:=heap_alloc_new w (.cells news.toArray T (0,0));simp only [World.cell?,this];simpa using hj
theorem infoB:(Tryz.prog.info? 5).map (fun i=>(i.zero,i.size,i.bytes))=some (some (.int .u8 0),1,1):=by kernel_rfl
theorem str_cells (acc:B):strOfNums (acc.map fun c=>(c.toNat:Int))=str acc:=by
 unfold strOfNums;congr 2;rw [List.map_map];conv=>rhs;rw [←List.map_id acc]
 apply List.map_congr_left;intro c _;simp
theorem conv_own {w:World}{B0:Nat}{v:Value}{acc:B} (h:Own w B0 v acc):(convert 138 9 v).run Tryz.prog w= .ok (.string (str acc)) w:=by
 have h:=World.ownsRowF_of h;rcases h.2 with ⟨rfl,h0⟩|⟨g,cap,cur,fz,rfl,h1,h2,h3,h4,h5,h6,h7⟩
 · obtain rfl:acc= []:=List.eq_nil_of_length_eq_zero h0;exact run_convert_bytes_nil w 138 5 (by kernel_rfl) (by kernel_rfl) 0 0 9 (by kernel_rfl)
 · rw [←str_cells];refine run_convert_bytes_arg w 138 5 (by kernel_rfl) (by kernel_rfl) g 0 acc.length cap _ (by simp) ?_ 9 (by kernel_rfl);intro i hi;have:=h.cells (g:=g) rfl i (.int .u8 ((acc[i].toNat:Nat):Int)) (by simp [Lib.byteCells,hi]);have hadd:(⟨g,0,none⟩:Addr).add i=⟨g,0+i,none⟩:=by unfold Addr.add;split <;> simp_all
   rw [hadd] at this;rw [this];simp [List.getD,hi]
theorem wp_append_own_at {P:Program}{w:World}{o:Oper}{a:Act}{K:Act→World→Prop}{Q:Exit→Act→World→Prop} (s x:Operand) (t:TypeId)
  (ho:o.op= .call {callee:=.builtin .append,args:=#[s,x],argTypes:=#[t,t]})
  (base:Nat) (e:TypeId) (i:TypeInfo) (z:Value) (size bytes:Nat) (ht:P.underlying t=some (.slice e)) (hi:P.info? e=some i) (hz:i.zero=some z)
  (hsize:i.size=size) (hby:i.bytes=bytes) (hzs:z.cells.size=size) (hsz:0<size)
  (v:Value) (n:Nat) (xs:List Value) (hs:a.eval s=v) (hown:w.ownsRow base e size v n xs)
  (ad:Addr) (m c:Nat) (news:List Value) (hx:a.eval x= .slice (some ad) m c) (hl:news.length=m*size) (hnews:∀ j u,news[j]?=some u→w.cell? (ad.add j)=some u) (h1:∀ u∈news,u.oneCell'=true)
  (h63:n+m≤maxLen) (hbytes:(n+m)*bytes≤140737488355328) (hbase:base≤w.heap.size)
  (h:∀ v' w',w'.ownsRow base e size v' (n+m) (xs++news)→w.grownBy w' v.ownBlock→(v'.ownBlock=v.ownBlock∨v'.ownBlock=some w.heap.size)→K (a.put o.dst v') w'):o.wp P a w K Q:=by
 obtain⟨v',w',hr,h2,h3,_,h5⟩:=run_append_own_at (P:=P) w base t o.type e i z size bytes ht hi hz hsize hby hzs hsz v n xs hown ad m c news hl hnews h1 h63 hbytes hbase;unfold Oper.wp execOp;simp only [ho,resolve,invoke,builtin,Sem.run_bind,Sem.run_pure,Result.andThen_ok,List.map_toArray,List.map_cons,List.map_nil,hs,hx,hr];exact h v' w' h2 h3 h5
theorem one_cell (c:UInt8):Lib.byteCells [c]= [.int .u8 (c.toNat:Int)]:=rfl
def strC (ns:List B):List Value:=ns.map fun t=>.string (str t)
def OwnS (w:World) (base:Nat) (v:Value) (ns:List B):Prop:=w.ownsRow base 9 1 v ns.length (strC ns)
theorem OwnS.nil (w:World) (base:Nat):OwnS w base (.slice none 0 0) []:=⟨rfl,.inl ⟨rfl,rfl⟩⟩
theorem OwnS.put {w':World}{base:Nat}{v':Value}{acc:List B}{t:B} (h:w'.ownsRow base 9 1 v' (acc.length+1) (strC acc++ [.string (str t)])):OwnS w' base v' (acc++ [t]):=by
 unfold OwnS;rw [List.length_append,show strC (acc++ [t])=strC acc++ [.string (str t)] from by simp [strC]];exact h
theorem OwnS.below {w w':World}{base:Nat}{v:Value}{acc:List B} (h:OwnS w base v acc) (hb:base≤w.heap.size) (hg:w.grownBy w' v.ownBlock):Below base w w':=
 ⟨hg.os,hg.tape,hg.output,hg.size,fun k hk=>hg.block k (by omega) (fun e=>own_ne h hk e.symm)⟩
theorem OwnS.keep {w w':World}{base:Nat}{v:Value}{acc:List B} (h:OwnS w base v acc) (hb:Below w.heap.size w w'):OwnS w' base v acc:=by
 refine⟨h.1,?_⟩;rcases h.2 with h1|⟨g,cap,cur,h1,h2,h3,h4⟩
 · exact .inl h1
 · exact .inr ⟨g,cap,cur,h1,h2,(hb.block g (lt_of_heap h3)).trans h3,h4⟩
theorem OwnS.alloc {w:World}{base:Nat}{v:Value}{acc:List B} (h:OwnS w base v acc) (o:Obj):OwnS (w.alloc o) base v acc:=h.keep (below_new w o)
theorem infoS:(Tryz.prog.info? 9).map (fun i=>(i.zero,i.size,i.bytes))=some (some (.string ⟨#[]⟩),1,16):=by kernel_rfl
theorem strCells_str (s:B):Lib.strCells (str s)=Lib.byteCells s:=by
 simp [Lib.strCells,Lib.byteCells]
theorem OwnS.cap {w:World}{base n c:Nat}{p:Option Addr}{ns:List B} (h:OwnS w base (.slice p n c) ns):n≤c:=by
 rcases h.2 with ⟨h1,h2⟩|⟨g,cap,cur,h1,h2,h3,h4,_⟩
 · cases h1;exact Nat.le_refl _
 · cases h1;exact h4
theorem OwnS.at {w:World}{base n c j:Nat}{p:Option Addr}{ns:List B}{t:B} (h:OwnS w base (.slice p n c) ns) (hj:ns[j]?=some t):∃ g o,p=some ⟨g,o,none⟩∧w.cell? ⟨g,o+j,none⟩=some (.string (str t)):=by
 have hlt:j<ns.length:=(List.getElem?_eq_some_iff.1 hj).1;rcases h.2 with ⟨h1,h2⟩|⟨g,cap,cur,h1,h2,h3,h4,_,h6,h7⟩
 · omega
 · refine⟨g,0,by cases h1;rfl,?_⟩;have e:(cur.toList.take (ns.length*1))[j]?=some (.string (str t)):=by
    rw [h7];simp [strC,hj]
   rw [List.getElem?_take,if_pos (by omega)] at e;simp only [Nat.zero_add];simp only [World.cell?,h3];simpa using e
theorem OwnS.less {w:World}{base k c:Nat}{p:Option Addr}{ns:List B}{t:B} (h:OwnS w base (.slice p (k+1) c) (ns++ [t])) (hk:ns.length=k):OwnS w base (.slice p k c) ns:=by
 rcases h.2 with ⟨h1,h2⟩|⟨g,cap,cur,h1,h2,h3,h4,h5,h6,h7⟩
 · simp at h2
 · simp only [Value.slice.injEq] at h1;obtain⟨rfl,_,rfl⟩:=h1;refine⟨by simp [strC],.inr ⟨g,c,cur,by rw [hk],h2,h3,by simp at h4;omega,h5,h6,?_⟩⟩;have e:(cur.toList.take ((ns++ [t]).length*1)).take (ns.length*1)=strC ns:=by
    rw [h7];simp [strC]
   rw [List.take_take] at e;rw [←e];congr 1;simp
theorem OwnS.base {w:World}{b b':Nat}{v:Value}{acc:List B} (h:OwnS w b v acc) (hb:b'≤b):OwnS w b' v acc:=by
 refine⟨h.1,?_⟩;rcases h.2 with h1|⟨g,cap,cur,h1,h2,h3⟩
 · exact .inl h1
 · exact .inr ⟨g,cap,cur,h1,Nat.le_trans hb h2,h3⟩
theorem below_grown {w w':World} (h:w.grownBy w' none):Below w.heap.size w w':=⟨h.os,h.tape,h.output,h.size,fun k hk=>h.block k hk (by simp)⟩
theorem ext_drop (s:B) (i n:Nat) (h:s.length=n):(str s).extract i n=str (s.drop i):=by
 rw [ext_str,List.take_of_length_le (by rw [List.length_drop];omega)]
theorem lt_of_cell {w:World}{k o:Nat}{v:Value} (h:w.cell? ⟨k,o,none⟩=some v):k<w.heap.size:=by
 unfold World.cell? at h;cases e:w.heap[k]? with
 |none=>simp [e] at h
 |some o=>exact lt_of_heap e
theorem cell_keep {w w':World} (hb:Below w.heap.size w w') {k o:Nat}{v:Value} (h:w.cell? ⟨k,o,none⟩=some v):w'.cell? ⟨k,o,none⟩=some v:=(hb.cell (p:=⟨k,o,none⟩) (lt_of_cell h)).trans h
def errOf (k:Nat):Value:=if k=0 then .nilIface else .iface 74 (.int .i64 (k:Int))
theorem errOf_zero:errOf 0= .nilIface:=rfl
theorem errOf_pos {k:Nat} (h:k≠0):errOf k= .iface 74 (.int .i64 (k:Int)):=by unfold errOf;rw [if_neg h]
theorem Own.cap {w:World}{base n c:Nat}{p:Option Addr}{acc:B} (h:Own w base (.slice p n c) acc):n≤c:=by
 rcases h.2 with ⟨h1,h2⟩|⟨g,cap,cur,h1,h2,h3,h4,_⟩
 · cases h1;exact Nat.le_refl _
 · cases h1;exact h4
theorem Own.less {w:World}{base n c:Nat}{p:Option Addr}{a b:B} (h:Own w base (.slice p n c) (a++b)):Own w base (.slice p a.length c) a:=by
 rcases h.2 with ⟨h1,h2⟩|⟨g,cap,cur,h1,h2,h3,h4,h5,h6,h7⟩
 · cases h1;have ha:a= []:=List.eq_nil_of_length_eq_zero (by rw [List.length_append] at h2;omega);subst ha;exact Own.nil w base
 · simp only [Value.slice.injEq] at h1;obtain⟨rfl,_,rfl⟩:=h1;refine⟨by simp [Lib.byteCells],.inr ⟨g,c,cur,rfl,h2,h3,by rw [List.length_append] at h4;omega,h5,h6,?_⟩⟩;have e:(cur.toList.take ((a++b).length*1)).take (a.length*1)=Lib.byteCells a:=by
    rw [h7];simp [Lib.byteCells]
   rw [List.take_take] at e;rw [←e];congr 1;simp
theorem Own.at {w:World}{base n c j:Nat}{p:Option Addr}{acc:B}{y:UInt8} (h:Own w base (.slice p n c) acc) (hj:acc[j]?=some y):∃ g o,p=some ⟨g,o,none⟩∧w.cell? ⟨g,o+j,none⟩=some (.int .u8 (y.toNat:Int)):=by
 have hlt:j<acc.length:=(List.getElem?_eq_some_iff.1 hj).1;rcases h.2 with ⟨h1,h2⟩|⟨g,cap,cur,h1,h2,h3,h4,_,h6,h7⟩
 · omega
 · refine⟨g,0,by cases h1;rfl,?_⟩;have e:(cur.toList.take (acc.length*1))[j]?=some (.int .u8 (y.toNat:Int)):=by
    rw [h7];simp [Lib.byteCells,hj]
   rw [List.getElem?_take,if_pos (by omega)] at e;simp only [Nat.zero_add];simp only [World.cell?,h3];simpa using e
theorem take_ext (s:B) (k:Nat):(str s).extract 0 k=str (s.take k):=by rw [ext_str];simp
theorem str_app (a b:B):str a++str b=str (a++b):=by
 apply ByteArray.ext;simp [ByteArray.data_append]
def fldC (fs:List (B×B)):List Value:=fs.flatMap fun f=>[.string (str f.1),.string (str f.2)]
theorem fldC_app (a b:List (B×B)):fldC (a++b)=fldC a++fldC b:=by simp [fldC]
def OwnF (w:World) (base:Nat) (v:Value) (fs:List (B×B)):Prop:=w.ownsRow base 73 2 v fs.length (fldC fs)
theorem OwnF.nil (w:World) (base:Nat):OwnF w base (.slice none 0 0) []:=⟨rfl,.inl ⟨rfl,rfl⟩⟩
theorem OwnF.put {w':World}{base:Nat}{v':Value}{acc:List (B×B)}{f:B×B} (h:w'.ownsRow base 73 2 v' (acc.length+1) (fldC acc++ [.string (str f.1),.string (str f.2)])):OwnF w' base v' (acc++ [f]):=by
 unfold OwnF;rw [List.length_append,fldC_app];exact h
theorem OwnF.below {w w':World}{base:Nat}{v:Value}{acc:List (B×B)} (h:OwnF w base v acc) (hb:base≤w.heap.size) (hg:w.grownBy w' v.ownBlock):Below base w w':=
 ⟨hg.os,hg.tape,hg.output,hg.size,fun k hk=>hg.block k (Nat.lt_of_lt_of_le hk hb) (fun e=>by have:=own_ge h e.symm;omega)⟩
theorem OwnF.keep {w w':World}{base:Nat}{v:Value}{acc:List (B×B)} (h:OwnF w base v acc) (hb:Below w.heap.size w w'):OwnF w' base v acc:=by
 refine⟨h.1,?_⟩;rcases h.2 with h1|⟨g,cap,cur,h1,h2,h3,h4⟩
 · exact .inl h1
 · exact .inr ⟨g,cap,cur,h1,h2,(hb.block g (lt_of_heap h3)).trans h3,h4⟩
theorem OwnF.alloc {w:World}{base:Nat}{v:Value}{acc:List (B×B)} (h:OwnF w base v acc) (o:Obj):OwnF (w.alloc o) base v acc:=h.keep (below_new w o)
theorem infoF:(Tryz.prog.info? 73).map (fun i=>(i.zero,i.size,i.bytes))=some (some (.agg #[.string ⟨#[]⟩,.string ⟨#[]⟩]),2,32):=by kernel_rfl
theorem fldC_at:∀ (fs:List (B×B)) (j:Nat) (f:B×B),fs[j]?=some f→(fldC fs)[2*j]?=some (.string (str f.1))∧(fldC fs)[2*j+1]?=some (.string (str f.2))
 | [],j,f,h=>by simp at h
 |x::l,0,f,h=>by
  simp at h;subst h;simp [fldC]
 |x::l,j+1,f,h=>by
  obtain⟨h1,h2⟩:=fldC_at l j f (by simpa using h);have e:fldC (x::l)= .string (str x.1):: .string (str x.2)::fldC l:=rfl;rw [e,show 2*(j+1)=2*j+1+1 by omega];simp only [List.getElem?_cons_succ];exact⟨h1,h2⟩
theorem OwnF.at {w:World}{base n c j:Nat}{p:Option Addr}{fs:List (B×B)}{f:B×B} (h:OwnF w base (.slice p n c) fs) (hj:fs[j]?=some f):∃ g o,p=some ⟨g,o,none⟩∧w.cell? ⟨g,o+2*j,none⟩=some (.string (str f.1))∧w.cell? ⟨g,o+2*j+1,none⟩=some (.string (str f.2)):=by
 have hlt:j<fs.length:=(List.getElem?_eq_some_iff.1 hj).1;obtain⟨k1,k2⟩:=fldC_at fs j f hj;rcases h.2 with ⟨h1,h2⟩|⟨g,cap,cur,h1,h2,h3,h4,_,h6,h7⟩
 · omega
 · refine⟨g,0,by cases h1;rfl,?_,?_⟩
   · rw [←h7,List.getElem?_take,if_pos (by omega)] at k1;simp only [Nat.zero_add];simp only [World.cell?,h3];simpa using k1
   · rw [←h7,List.getElem?_take,if_pos (by omega)] at k2;simp only [Nat.zero_add];simp only [World.cell?,h3];simpa using k2
def cutT:B→List B
 | []=>[[]]
 |c::s=>if c=47 then []::cutT s else match cutT s with
  | []=>[[c]]
  |x::l=>(c::x)::l
theorem cutT_ne (s:B):cutT s≠ []:=by
 cases s with
 |nil=>simp [cutT]
 |cons c s=>
  unfold cutT;split
  · simp
  · split <;> simp
def splitT (s:B):Option (List B):=match s with
 |c::t=>if c=47 then some (cutT t) else none
 | []=>none
def kindT (s:B):Nat:=match s with
 |c::_=>if c=58 then 1 else if c=42 then 2 else 0
 | []=>0
theorem kindT_le (s:B):kindT s≤2:=by
 unfold kindT;split
 · split
   · decide
   · split <;> decide
 · decide
def joinT:List B→B
 | []=>[]
 | [x]=>x
 |x::y::l=>x++47::joinT (y::l)
def fitsT:List B→List B→Option (List (B×B))
 | [],[]=>some []
 | [],_::_=>none
 |_::_,[]=>none
 |x::l,y::r=>
  if kindT x=2 then some [(x.tail,joinT (y::r))]
  else if kindT x=1 then (if y= [] then none else (fitsT l r).map ((x.tail,y):: ·))
  else if x=y then fitsT l r else none
def betterT:List B→List B→Bool
 |x::l,y::r=>if kindT x=kindT y then betterT l r else decide (kindT x<kindT y)
 |_,_=>false
def alikeT:List B→List B→Bool
 | [],[]=>true
 |x::l,y::r=>decide (kindT x=kindT y) && (decide (kindT x≠0) || decide (x=y)) && alikeT l r
 |_,_=>false
def restLast:List B→Bool
 | []=>true
 | [_]=>true
 |x::y::l=>decide (kindT x≠2) && restLast (y::l)
theorem better_irrefl:∀ a:List B,betterT a a=false
 | []=>rfl
 |x::l=>by
  unfold betterT;rw [if_pos rfl];exact better_irrefl l
theorem better_trans:∀ {a b c:List B},betterT a b=true→betterT b c=true→betterT a c=true
 | [],_,_,h,_=>by simp [betterT] at h
 |_::_,[],_,h,_=>by simp [betterT] at h
 |_::_,_::_,[],_,h=>by simp [betterT] at h
 |x::a,y::b,z::c,h1,h2=>by
  unfold betterT at h1 h2 ⊢;by_cases e1:kindT x=kindT y
  · rw [if_pos e1] at h1;by_cases e2:kindT y=kindT z
    · rw [if_pos e2] at h2;rw [if_pos (e1.trans e2)];exact better_trans h1 h2
    · rw [if_neg e2] at h2;rw [if_neg (by rw [e1];exact e2),e1];exact h2
  · rw [if_neg e1] at h1;have h1':=of_decide_eq_true h1;by_cases e2:kindT y=kindT z
    · rw [if_neg (by rw [←e2];exact e1),←e2];exact h1
    · rw [if_neg e2] at h2;have h2':=of_decide_eq_true h2;rw [if_neg (by omega)];exact decide_eq_true (by omega)
theorem better_asymm {a b:List B} (h:betterT a b=true):betterT b a=false:=by
 cases e:betterT b a with
 |false=>rfl
 |true=>
  have:=better_trans h e;rw [better_irrefl] at this;cases this
theorem fits_nil {a:List B} (h:(fitsT a []).isSome=true):a= []:=by
 cases a with
 |nil=>rfl
 |cons x l=>simp [fitsT] at h
theorem better_total:∀ (a b p:List B),restLast a=true→restLast b=true→(fitsT a p).isSome=true→(fitsT b p).isSome=true→alikeT a b=true∨betterT a b=true∨betterT b a=true
 | [],b,p,_,_,ha,hb=>by
  cases p with
  |nil=>
   rw [fits_nil hb];exact .inl rfl
  |cons y r=>simp [fitsT] at ha
 |x::l,b,[],_,_,ha,_=>by simp [fitsT] at ha
 |x::l,[],y::r,_,_,_,hb=>by simp [fitsT] at hb
 |x::l,z::m,y::r,ra,rb,ha,hb=>by
  by_cases ek:kindT x=kindT z
  · have hs:betterT (x::l) (z::m)=betterT l m:=by
     show (if kindT x=kindT z then betterT l m else _)=_;rw [if_pos ek]
    have hs':betterT (z::m) (x::l)=betterT m l:=by
     show (if kindT z=kindT x then betterT m l else _)=_;rw [if_pos ek.symm]
    rw [hs,hs'];by_cases k2:kindT x=2
    · have hl:l= []:=by
       cases l with
       |nil=>rfl
       |cons u v=>
        simp [restLast,k2] at ra
      have hm:m= []:=by
       cases m with
       |nil=>rfl
       |cons u v=>
        simp [restLast,←ek,k2] at rb
      subst hl hm;left;have k2':kindT z=2:=ek.symm.trans k2;simp [alikeT,k2,k2']
    · have ra':restLast l=true:=by
       cases l with
       |nil=>rfl
       |cons u v=>
        simp [restLast] at ra;exact ra.2
      have rb':restLast m=true:=by
       cases m with
       |nil=>rfl
       |cons u v=>
        simp [restLast] at rb;exact rb.2
      have k2':¬kindT z=2:=by rw [←ek];exact k2
      by_cases k1:kindT x=1
      · have k1':kindT z=1:=by rw [←ek];exact k1
        have ha':(fitsT l r).isSome=true:=by
         rw [fitsT,if_neg k2,if_pos k1] at ha;split at ha
         · cases ha
         · simpa using ha
        have hb':(fitsT m r).isSome=true:=by
         rw [fitsT,if_neg k2',if_pos k1'] at hb;split at hb
         · cases hb
         · simpa using hb
        rcases better_total l m r ra' rb' ha' hb' with h|h
        · left;unfold alikeT;rw [h,k1,k1'];rfl
        · exact .inr h
      · have k1':¬kindT z=1:=by rw [←ek];exact k1
        rw [fitsT,if_neg k2,if_neg k1] at ha;rw [fitsT,if_neg k2',if_neg k1'] at hb;split at ha
        · rename_i e1
          split at hb
          · rename_i e2
            rcases better_total l m r ra' rb' ha hb with h|h
            · left;unfold alikeT;rw [h,e1,e2];simp
            · exact .inr h
          · cases hb
        · cases ha
  · right;have hs:betterT (x::l) (z::m)=decide (kindT x<kindT z):=by
     show (if kindT x=kindT z then betterT l m else _)=_;rw [if_neg ek]
    have hs':betterT (z::m) (x::l)=decide (kindT z<kindT x):=by
     show (if kindT z=kindT x then betterT m l else _)=_;rw [if_neg (fun e=>ek e.symm)]
    rw [hs,hs'];rcases Nat.lt_or_gt_of_ne ek with h|h
    · exact .inl (decide_eq_true h)
    · exact .inr (decide_eq_true h)
theorem joinT_cons (x:B) {l:List B} (h:l≠ []):joinT (x::l)=x++47::joinT l:=by
 cases l with
 |nil=>exact absurd rfl h
 |cons y l=>rfl
theorem joinT_app (c:UInt8) (x:B) (l:List B):joinT ((c::x)::l)=c::joinT (x::l):=by
 cases l with
 |nil=>rfl
 |cons y l=>rfl
theorem joinT_cut:∀ s:B,joinT (cutT s)=s
 | []=>rfl
 |c::s=>by
  have ih:=joinT_cut s;unfold cutT;split
  · rename_i hc
    rw [joinT_cons _ (cutT_ne s),ih,hc];rfl
  · split
    · rename_i e
      exact absurd e (cutT_ne s)
    · rename_i y l e
      rw [joinT_app,←e,ih]
theorem cutT_cons (c:UInt8) (s:B):cutT (c::s)=if c=47 then []::cutT s else match cutT s with
 | []=>[[c]]
 |x::l=>(c::x)::l:=rfl
theorem cutT_app:∀ (x s:B),(47:UInt8)∉x→cutT (x++47::s)=x::cutT s
 | [],s,_=>by
  show cutT (47::s)=_;rw [cutT_cons,if_pos rfl]
 |c::x,s,h=>by
  simp at h;have ih:=cutT_app x s h.2;show cutT (c::(x++47::s))=_;rw [cutT_cons,if_neg (fun e=>h.1 e.symm),ih]
theorem cutT_only:∀ (x:B),(47:UInt8)∉x→cutT x= [x]
 | [],_=>rfl
 |c::x,h=>by
  simp at h;have ih:=cutT_only x h.2;rw [cutT_cons,if_neg (fun e=>h.1 e.symm),ih]
def okSegs (V:UInt8→Bool) (K:B→Bool):List B→List B→Bool
 |_,[]=>true
 |names,x::l=>
  if kindT x=0 then x.all V && okSegs V K names l
  else K x.tail && (decide (kindT x≠2) || decide (l= [])) && !names.contains x.tail && okSegs V K (names++ [x.tail]) l
def checkT (V:UInt8→Bool) (K:B→Bool) (p:B):Bool:=match splitT p with
 |none=>false
 |some l=>decide (p.length≤256) && decide (l.length≤64) && okSegs V K [] l
theorem ok_rest {V:UInt8→Bool}{K:B→Bool}:∀ {names l:List B},okSegs V K names l=true→restLast l=true
 |_,[],_=>rfl
 |_,[_],_=>rfl
 |names,x::y::l,h=>by
  unfold okSegs at h;unfold restLast;split at h
  · rename_i h0
    rw [Bool.and_eq_true] at h;rw [ok_rest h.2,Bool.and_true];exact decide_eq_true (by omega)
  · simp only [Bool.and_eq_true] at h;rw [ok_rest h.2,Bool.and_true];have h1:=h.1.1.2;simpa using h1
theorem check_some {V:UInt8→Bool}{K:B→Bool}{p:B} (h:checkT V K p=true):∃ t,p=47::t∧(cutT t).length≤64∧p.length≤256∧okSegs V K [] (cutT t)=true∧restLast (cutT t)=true:=by
 unfold checkT splitT at h;cases p with
 |nil=>cases h
 |cons c t=>
  by_cases hc:c=47
  · simp only [if_pos hc,Bool.and_eq_true,decide_eq_true_eq] at h;exact⟨t,by rw [hc],h.1.2,h.1.1,h.2,ok_rest h.2⟩
  · simp only [if_neg hc] at h;cases h
end Go.Proofs.YtlmlljlappjjjaaGreatDoor
